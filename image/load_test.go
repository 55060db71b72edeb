package image

import (
	"bytes"
	"slices"
	"strings"
	"testing"

	"cattlegrid/api"
	"cattlegrid/body"
	"cattlegrid/rows"
	"cattlegrid/streams"
)

// The columns, as the chapter of rows tells them.
var (
	flagsOf   = [3]int{0, 0, 1}
	nameOf    = [3]int{1, 1, 3}
	blobOf    = [6]int{-1, 2, 4, -1, 0, 0}
	upOf      = 2
	firstOf   = [3]int{-1, 3, 4}
	placeOf   = 0
	stackOf   = 2
	localsCol = 5
)

// nowhere is a place that is in no stream of these tests.
const nowhere = 60000

// turned is the rich image's bytes with something of their parts changed.
func turned(t *testing.T, change func(p *parts)) []byte {
	t.Helper()
	p := partsOf(t, rich())
	change(p)
	return p.bytes()
}

// set changes one column of one row.
func set(table, row, column, x int) func(p *parts) {
	return func(p *parts) { p.rows[table][row][column] = x }
}

// setBlob changes the blob of one row.
func setBlob(table, row int, b ...byte) func(p *parts) {
	return func(p *parts) { p.rows[table][row][blobOf[table]] = p.blob(b...) }
}

// setBody changes the body of one method.
func setBody(row int, x api.Body) func(p *parts) {
	return func(p *parts) { p.rows[2][row][placeOf] = p.body(x) }
}

// wantTurned wants what is told of the rich image with one thing changed: E and where, or that it is loaded.
func wantTurned(t *testing.T, told string, change func(p *parts), e api.Errno, table, row int) {
	t.Helper()
	b := turned(t, change)
	if e == api.OK {
		if f := wantAsModel(t, told, b); f != (api.Fault{}) {
			t.Errorf("%s: Load: %v", told, f)
		}
		return
	}
	wantMean(t, told, b, e, table, row)
}

// P10.2: layer 3's error, and its place.
func TestLoadImageErrors(t *testing.T) {
	b := goldBytes()
	with := func(at int, x ...byte) []byte {
		c := bytes.Clone(b)
		copy(c[at:], x)
		return c
	}
	wantFault(t, "cut off", b[:55], api.ErrShort, api.PImage, 55)
	wantFault(t, "cut off in a stream", b[:len(b)-1], api.ErrShort, api.PImage, 44)
	wantFault(t, "no mark", with(0, 'X'), api.ErrForm, api.PImage, 0)
	wantFault(t, "version 2", with(4, 2), api.ErrForm, api.PImage, 4)
	wantFault(t, "3 streams", with(6, 3), api.ErrForm, api.PImage, 6)
	wantFault(t, "a tag that is none", with(28, 'x'), api.ErrForm, api.PImage, 20)
	wantFault(t, "a place that is no multiple of 4", with(8, 57), api.ErrRange, api.PImage, 8)
	wantFault(t, "streams that share", with(32, 144), api.ErrForm, api.PImage, 32)
	long := make([]byte, api.MaxImage+1)
	copy(long, b)
	wantFault(t, "too long", long, api.ErrFull, api.PImage, 0)
	wantLoad(t, long[:api.MaxImage], short())
}

// P10.2: layer 4's error, and its place.
func TestLoadRowsErrors(t *testing.T) {
	p := partsOf(t, rich())
	load := func(rows []byte) []byte {
		b, e := streams.Join(api.Streams{Rows: rows, Names: p.names, Blobs: p.blobs, Code: p.code})
		if e != api.OK {
			t.Fatal(e)
		}
		return b
	}
	good := p.stream()
	wantLoad(t, load(good), rich())
	for n := range good {
		wantFault(t, "cut off", load(good[:n]), api.ErrShort, api.PRows, n)
	}
	wantFault(t, "bytes left", load(append(bytes.Clone(good), 0)), api.ErrForm, api.PRows, len(good))
	wantFault(t, "marks 4", load(append([]byte{4}, good[1:]...)), api.ErrForm, api.PRows, 0)
	wantFault(t, "tables 64", load(append([]byte{3, 64}, good[2:]...)), api.ErrForm, api.PRows, 1)
}

// plainBytes are the parts put together with narrow rows, for those that would be too long otherwise.
func (p *parts) plainBytes() []byte {
	b, e := rows.Write(api.Tables{Entry: p.entry, Rows: p.rows})
	if e != api.OK {
		panic(e)
	}
	b, e = streams.Join(api.Streams{Rows: b, Names: p.names, Blobs: p.blobs, Code: p.code})
	if e != api.OK {
		panic(e)
	}
	return b
}

// mostRows are how many rows each table may have.
var mostRows = [6]int{32, 64, 64, 128, 16383, 64}

// crowd is an image of which each table of those told has as many rows as it may, and so many more.
func crowd(t *testing.T, more int, tables ...int) *parts {
	t.Helper()
	p := partsOf(t, many(32, 1, 1))
	p.rows[4], p.rows[5] = [][]int{{p.blob(8)}}, [][]int{{p.blob(7, 1, 8)}}
	for i := range 32 {
		p.rows[3] = append(p.rows[3], slices.Repeat([][]int{{i + 1, 32}}, 4)...)
	}
	for _, table := range tables {
		for len(p.rows[table]) < mostRows[table]+more {
			p.rows[table] = append(p.rows[table], p.rows[table][len(p.rows[table])-1])
		}
	}
	return p
}

// P10.2: as many rows as there may be of each table, and one more; whatever else is wrong, and the first table first.
func TestLoadHowManyRows(t *testing.T) {
	wantAsModel(t, "all", crowd(t, 0, 0, 1, 2, 3, 4, 5).plainBytes())
	if _, f := Load(crowd(t, 0, 0, 1, 2, 3, 4, 5).plainBytes()); f != (api.Fault{}) {
		t.Error(f)
	}
	for table := range 6 {
		wantMean(t, "one more", crowd(t, 1, table).plainBytes(), api.ErrFull, table, 0)
		for other := table + 1; other < 6; other++ {
			wantMean(t, "one more of two", crowd(t, 1, other, table).plainBytes(), api.ErrFull, table, 0)
		}
		p := crowd(t, 1, table)
		p.names, p.blobs, p.entry = nil, nil, 99
		wantMean(t, "one more, and nothing else right", p.plainBytes(), api.ErrFull, table, 0)
	}
}

// P10.2: names that layer 2 doesn't find, of types, fields and methods: its error, and the place asked for.
func TestLoadNames(t *testing.T) {
	for table := range 3 {
		last := len(partsOf(t, rich()).rows[table]) - 1
		for _, row := range []int{0, last} {
			wantFault(t, "place 0", turned(t, set(table, row, nameOf[table], 0)), api.ErrRange, api.PNames, 0)
			wantFault(t, "far", turned(t, set(table, row, nameOf[table], 1<<32-1)), api.ErrRange, api.PNames, 1<<32-1)
			for _, x := range []struct {
				told, names string
				at          int
				e           api.Errno
			}{
				{"behind the end", "", 0, api.ErrRange}, {"the last byte 0", "", -1, api.ErrName}, {"no name", "a b\x00", 0, api.ErrName}, {"the rest of no name", "a b\x00", 2, api.OK},
				{"too long", strings.Repeat("x", 25) + "\x00", 0, api.ErrName}, {"24 bytes of it", strings.Repeat("x", 25) + "\x00", 1, api.OK}, {"no byte 0", "abc", 0, api.ErrShort}, {"the last byte", "abc", 2, api.ErrShort},
			} {
				p := partsOf(t, rich())
				at := len(p.names) + x.at
				p.rows[table][row][nameOf[table]] = at
				p.names = append(p.names, x.names...)
				if x.e == api.OK {
					wantAsModel(t, x.told, p.bytes())
				} else {
					wantFault(t, x.told, p.bytes(), x.e, api.PNames, at)
				}
			}
		}
	}
}

// P10.2: blobs that layer 2 doesn't find, of every table that has some: its error, and the place asked for.
func TestLoadBlobs(t *testing.T) {
	for _, table := range []int{1, 2, 4, 5} {
		last := len(partsOf(t, rich()).rows[table]) - 1
		for _, row := range []int{0, last} {
			wantFault(t, "far", turned(t, set(table, row, blobOf[table], 1<<32-1)), api.ErrRange, api.PBlobs, 1<<32-1)
			for _, x := range []struct {
				told  string
				blobs []byte
				e     api.Errno
			}{
				{"behind the end", nil, api.ErrRange}, {"cut off", []byte{2, 6}, api.ErrShort}, {"a length cut off", []byte{128}, api.ErrShort},
				{"a length that is none", []byte{255, 0, 0, 0, 0}, api.ErrForm}, {"a length of too many bytes", []byte{128, 1, 6}, api.ErrForm},
			} {
				p := partsOf(t, rich())
				at := len(p.blobs)
				p.rows[table][row][blobOf[table]] = at
				p.blobs = append(p.blobs, x.blobs...)
				wantFault(t, x.told, p.bytes(), x.e, api.PBlobs, at)
			}
			wantTurned(t, "an empty blob", set(table, row, blobOf[table], 0), api.ErrShort, table, row)
		}
	}
}

// P10.2: specs, row by row.
func TestLoadSpecs(t *testing.T) {
	for row := range 4 {
		for _, x := range []struct {
			told string
			e    api.Errno
			b    []byte
		}{
			{"int", api.OK, []byte{8}}, {"an array", api.OK, []byte{0x1d, 0x1d, 0x1d, 0x1c}}, {"a fault", api.OK, []byte{0x13, 7}}, {"the last class", api.OK, []byte{0x12, 20}}, {"the last value", api.OK, []byte{0x11, 20}},
			{"cut off", api.ErrShort, []byte{0x1d}}, {"no number", api.ErrShort, []byte{0x12}}, {"four dimensions", api.ErrDeep, []byte{0x1d, 0x1d, 0x1d, 0x1d, 8}}, {"another byte", api.ErrForm, []byte{9}}, {"bytes left", api.ErrForm, []byte{8, 8}}, {"voids", api.ErrForm, []byte{0x1d, 1}},
			{"a row of specs", api.ErrToken, []byte{0x12, 6}}, {"row 33", api.ErrToken, []byte{0x12, 0x80, 132}}, {"fault 8", api.ErrToken, []byte{0x13, 8}},
			{"void", api.ErrType, []byte{1}}, {"an address", api.ErrType, []byte{0x10, 8}}, {"the address of a class that isn't there", api.ErrType, []byte{0x10, 0x12, 24}},
			{"a class that isn't there", api.ErrToken, []byte{0x12, 24}}, {"a value that isn't there", api.ErrToken, []byte{0x1d, 0x11, 24}}, {"class 31", api.ErrToken, []byte{0x12, 0x80, 128}},
		} {
			wantTurned(t, x.told, setBlob(4, row, x.b...), x.e, 4, row)
		}
	}
	p := partsOf(t, rich())
	at := p.spec(1) - 1
	p.spec(9)
	wantMean(t, "a row that nobody asks for", p.bytes(), api.ErrType, 4, at)
}

// P10.2: locals, row by row.
func TestLoadLocals(t *testing.T) {
	for row := range 2 {
		for _, x := range []struct {
			told string
			e    api.Errno
			b    []byte
		}{
			{"none", api.OK, []byte{7, 0}}, {"an address", api.OK, []byte{7, 1, 0x10, 0x12, 20}}, {"12", api.OK, append([]byte{7, 12}, bytes.Repeat([]byte{8}, 12)...)},
			{"cut off", api.ErrShort, []byte{7, 1}}, {"no count", api.ErrShort, []byte{7}}, {"another head", api.ErrForm, []byte{6, 0}}, {"bytes left", api.ErrForm, []byte{7, 0, 8}}, {"13", api.ErrFull, append([]byte{7, 13}, bytes.Repeat([]byte{8}, 13)...)},
			{"void", api.ErrType, []byte{7, 1, 1}}, {"another byte", api.ErrForm, []byte{7, 1, 2}}, {"four dimensions", api.ErrDeep, []byte{7, 1, 0x1d, 0x1d, 0x1d, 0x1d, 8}},
			{"a class that isn't there", api.ErrToken, []byte{7, 2, 8, 0x12, 24}}, {"a value that isn't there", api.ErrToken, []byte{7, 2, 0x10, 0x11, 24, 8}}, {"a void behind it", api.ErrType, []byte{7, 2, 0x12, 24, 1}},
		} {
			wantTurned(t, x.told, setBlob(5, row, x.b...), x.e, 5, row)
		}
	}
}

// P10.2: what types are and extend.
func TestLoadTypes(t *testing.T) {
	for row := range 5 {
		for _, x := range []struct {
			column, x int
			e         api.Errno
		}{
			{0, 0, api.OK}, {0, 31, api.OK}, {0, 32, api.ErrRange}, {0, 65535, api.ErrRange},
			{upOf, 0, api.OK}, {upOf, 4, api.OK}, {upOf, 20, api.OK}, {upOf, 24, api.ErrToken}, {upOf, 65532, api.ErrToken},
			{upOf, 1, api.ErrToken}, {upOf, 2, api.ErrToken}, {upOf, 3, api.ErrToken}, {upOf, 5, api.ErrToken}, {upOf, 7, api.ErrToken}, {upOf, 6, api.ErrToken}, {upOf, 18, api.ErrToken},
		} {
			wantTurned(t, "column", set(0, row, x.column, x.x), x.e, 0, row)
		}
	}
	h, f := Load(turned(t, set(0, 3, upOf, 20)))
	if f != (api.Fault{}) || h.Types[3].Extends != 4 {
		t.Error(h, f)
	}
}

// P10.2: faces, row by row.
func TestLoadFaces(t *testing.T) {
	for row := range 7 {
		for column := range 2 {
			wantTurned(t, "row 0", set(3, row, column, 0), api.ErrToken, 3, row)
			wantTurned(t, "the row behind the last", set(3, row, column, 6), api.ErrToken, 3, row)
			wantTurned(t, "far", set(3, row, column, 65535), api.ErrToken, 3, row)
		}
		wantTurned(t, "the last", set(3, row, 0, 5), api.OK, 3, row)
		wantTurned(t, "the last", set(3, row, 1, 5), api.OK, 3, row)
	}
	// Type 2 has the rows 0 to 3.
	wantTurned(t, "five of one", set(3, 6, 0, 2), api.ErrFull, 3, 6)
	wantTurned(t, "five of one that is told ahead of others", func(p *parts) { p.rows[3][4][0], p.rows[3][6][1] = 2, 0 }, api.ErrFull, 3, 4)
	wantTurned(t, "a fifth that isn't there", func(p *parts) { p.rows[3][6] = []int{2, 9} }, api.ErrToken, 3, 6)
	g := rich()
	g.Types[1].Faces, g.Types[3].Faces, g.Types[4].Faces = []int{1, 3}, []int{2, 4, 0, 3}, []int{4}
	wantLoad(t, turned(t, func(p *parts) { p.rows[3] = [][]int{{4, 3}, {2, 2}, {4, 5}, {4, 1}, {5, 5}, {2, 4}, {4, 4}} }), g)
}

// P10.2: fields and methods without any type: the row is the first one's.
func TestLoadWithoutTypes(t *testing.T) {
	for _, x := range []struct {
		fields, methods, entry int
		e                      api.Errno
		table                  int
	}{
		{0, 0, 0, api.OK, 0}, {1, 0, 0, api.ErrToken, 1}, {64, 0, 0, api.ErrToken, 1}, {0, 1, 0, api.ErrToken, 2}, {0, 64, 9, api.ErrToken, 2}, {3, 3, 0, api.ErrToken, 1}, {0, 0, 1, api.ErrToken, 6},
	} {
		p := partsOf(t, many(1, x.fields, x.methods))
		p.rows[0], p.entry = nil, x.entry
		if x.e == api.OK {
			wantLoad(t, p.bytes(), nothing())
		} else {
			wantMean(t, "without types", p.bytes(), x.e, x.table, 0)
		}
	}
}

// P10.2: where types' fields and methods begin.
func TestLoadOwners(t *testing.T) {
	for table := 1; table < 3; table++ {
		column := firstOf[table]
		n := len(partsOf(t, rich()).rows[table])
		firsts := func(l ...int) func(p *parts) {
			return func(p *parts) {
				for i, x := range l {
					p.rows[0][i][column] = x
				}
			}
		}
		for _, x := range []struct {
			told string
			l    []int
			e    api.Errno
			row  int
		}{
			{"all of the first", []int{1, n + 1, n + 1, n + 1, n + 1}, api.OK, 0}, {"all of the last", []int{1, 1, 1, 1, 1}, api.OK, 0}, {"all of the third", []int{1, 1, 1, n + 1, n + 1}, api.OK, 0}, {"some of each", []int{1, 2, 3, 4, 5}, api.OK, 0},
			{"the first is 0", []int{0, 1, 1, 1, 1}, api.ErrRange, 0}, {"the first is 2", []int{2, 2, 2, 2, 2}, api.ErrRange, 0}, {"the first is far", []int{65535}, api.ErrRange, 0}, {"one behind the last", []int{1, 1, 1, 1, n + 2}, api.ErrRange, 4}, {"one behind the last", []int{1, 1, n + 2, n + 2, n + 2}, api.ErrRange, 2},
			{"one falls", []int{1, 3, 2, 4, 5}, api.ErrRange, 2}, {"one is 0", []int{1, 0, 2, 4, 5}, api.ErrRange, 1}, {"the last falls", []int{1, 2, 3, 5, 4}, api.ErrRange, 4}, {"two fall", []int{1, 3, 2, 1, 1}, api.ErrRange, 2}, {"one falls behind one that is far", []int{1, 60000, 3, 4, 5}, api.ErrRange, 1},
		} {
			wantTurned(t, x.told, firsts(x.l...), x.e, 0, x.row)
		}
		h, f := Load(turned(t, firsts(1, 2, 2, 5, 6)))
		var owners []int
		for _, x := range h.Fields {
			owners = append(owners, x.Owner)
		}
		if table == 2 {
			owners = nil
			for _, x := range h.Methods {
				owners = append(owners, x.Owner)
			}
		}
		if want := []int{0, 2, 2, 2, 3, 4, 4}[:n]; f != (api.Fault{}) || !slices.Equal(owners, want) {
			t.Error(owners, want, f)
		}
	}
	// Without fields a type's first one is behind the last all the same.
	p := partsOf(t, many(2, 0, 0))
	wantLoad(t, p.bytes(), many(2, 0, 0))
	for _, x := range []int{0, 2} {
		p.rows[0][1][3] = x
		wantMean(t, "no fields", p.bytes(), api.ErrRange, 0, 1)
	}
}

// P10.2: fields, row by row.
func TestLoadFields(t *testing.T) {
	for row := range 6 {
		for _, x := range []struct {
			flags int
			e     api.Errno
		}{{0, api.OK}, {1, api.OK}, {2, api.ErrRange}, {3, api.ErrRange}, {65535, api.ErrRange}} {
			wantTurned(t, "flags", set(1, row, 0, x.flags), x.e, 1, row)
		}
		for _, x := range []struct {
			told string
			e    api.Errno
			b    []byte
		}{
			{"int", api.OK, []byte{6, 8}}, {"the last class", api.OK, []byte{6, 0x12, 20}},
			{"cut off", api.ErrShort, []byte{6}}, {"another head", api.ErrForm, []byte{7, 8}}, {"bytes left", api.ErrForm, []byte{6, 8, 8}}, {"four dimensions", api.ErrDeep, []byte{6, 0x1d, 0x1d, 0x1d, 0x1d, 8}}, {"row 33", api.ErrToken, []byte{6, 0x12, 0x80, 132}},
			{"void", api.ErrType, []byte{6, 1}}, {"an address", api.ErrType, []byte{6, 0x10, 0x11, 24}},
			{"a class that isn't there", api.ErrToken, []byte{6, 0x12, 24}}, {"a value that isn't there", api.ErrToken, []byte{6, 0x11, 0x80, 128}},
		} {
			wantTurned(t, x.told, setBlob(1, row, x.b...), x.e, 1, row)
		}
	}
}

// P10.2: methods, row by row; of rich's methods 0, 3, 4 and 6 are static.
func TestLoadMethods(t *testing.T) {
	for row := range 7 {
		static := rich().Methods[row].Flags & 1
		for _, x := range []struct {
			column, x int
			e         api.Errno
		}{
			{1, static, api.OK}, {1, 30 + static, api.OK}, {1, 1 - static, api.ErrForm}, {1, 31 - static, api.ErrForm}, {1, 32 + static, api.ErrRange}, {1, 65534 + static, api.ErrRange},
			{stackOf, 0, api.OK}, {stackOf, 12, api.OK}, {stackOf, 13, api.ErrRange}, {stackOf, 65535, api.ErrRange},
			{localsCol, 0, api.OK}, {localsCol, 1, api.OK}, {localsCol, 2, api.OK}, {localsCol, 3, api.ErrToken}, {localsCol, 65535, api.ErrToken},
		} {
			wantTurned(t, "column", set(2, row, x.column, x.x), x.e, 2, row)
		}
		this := byte(0x20 * (1 - static))
		for _, x := range []struct {
			told string
			e    api.Errno
			b    []byte
		}{
			{"nothing", api.OK, []byte{this, 0, 1}}, {"an address", api.OK, []byte{this, 1, 1, 0x10, 0x12, 20}},
			{"cut off", api.ErrShort, []byte{this, 0}}, {"another head", api.ErrForm, []byte{1, 0, 1}}, {"the other head", api.ErrForm, []byte{0x20 - this, 0, 1}}, {"bytes left", api.ErrForm, []byte{this, 0, 1, 8}}, {"7 parameters", api.ErrFull, []byte{this, 7, 1, 8, 8, 8, 8, 8, 8, 8}},
			{"an address is answered", api.ErrType, []byte{this, 0, 0x10, 8}}, {"a void parameter", api.ErrType, []byte{this, 1, 1, 1}}, {"four dimensions", api.ErrDeep, []byte{this, 0, 0x1d, 0x1d, 0x1d, 0x1d, 8}},
			{"an answer that isn't there", api.ErrToken, []byte{this, 0, 0x12, 24}}, {"a parameter that isn't there", api.ErrToken, []byte{this, 2, 1, 8, 0x10, 0x1d, 0x11, 24}},
			{"a type that isn't there, and the other head", api.ErrForm, []byte{0x20 - this, 0, 0x12, 24}},
		} {
			wantTurned(t, x.told, setBlob(2, row, x.b...), x.e, 2, row)
		}
	}
}

// P10.2: bodies that layer 8 doesn't read.
func TestLoadBodies(t *testing.T) {
	for row := range 7 {
		wantFault(t, "far", turned(t, set(2, row, placeOf, 1<<32-1)), api.ErrRange, api.PCode, 1<<32-2)
		for _, x := range []struct {
			told string
			off  int
			code []byte
			e    api.Errno
		}{
			{"at the end", 0, nil, api.ErrShort}, {"behind the end", 1, nil, api.ErrRange}, {"cut off", 0, []byte{10, 1}, api.ErrShort}, {"no code", 0, []byte{2}, api.ErrForm}, {"another head", 0, []byte{1, 1, 1}, api.ErrForm}, {"no multiple of 4", 1, []byte{0, 3, 0, 0, 0}, api.ErrForm},
			{"a length cut off", 0, []byte{3, 0, 0, 0, 1, 0}, api.ErrShort}, {"not the small way", 0, []byte{3, 0, 0, 0, 1, 0, 0, 0, 1}, api.ErrForm}, {"no clauses", 0, []byte{11, 0, 0, 0, 1, 0, 0, 0, 1, 0, 0, 0, 1, 0, 0, 0}, api.ErrForm},
		} {
			p := partsOf(t, rich())
			for len(p.code)%4 != 0 {
				p.code = append(p.code, 0)
			}
			at := len(p.code) + x.off
			p.code = append(p.code, x.code...)
			p.rows[2][row][placeOf] = at + 1
			wantFault(t, x.told, p.bytes(), x.e, api.PCode, at)
		}
	}
	// A small one may stand anywhere, and two methods may have one body.
	p := partsOf(t, rich())
	p.code = append(p.code, 255, 6, 1)
	g := rich()
	for _, row := range []int{1, 2} {
		p.rows[2][row][placeOf] = len(p.code) - 1
		g.Methods[row].Code, g.Methods[row].Clauses = []api.Instr{{Op: api.ONop}}, nil
	}
	wantLoad(t, p.bytes(), g)
}

// P10.2: the code; there are 4 specs, 7 methods and 6 fields.
func TestLoadCode(t *testing.T) {
	nops := func(n int) []byte { return bytes.Repeat([]byte{1}, n) }
	for _, x := range []struct {
		told string
		e    api.Errno
		b    []byte
	}{
		{"160 instructions", api.OK, nops(160)}, {"161 instructions", api.ErrFull, nops(161)}, {"161 that are none behind", api.ErrFull, append(nops(160), 0)},
		{"Op 0", api.ErrForm, []byte{1, 0}}, {"Op 76", api.ErrForm, []byte{76}}, {"cut off", api.ErrShort, []byte{1, 8, 1, 1, 1}},
		{"local 11", api.OK, []byte{5, 11}}, {"local 12", api.ErrRange, []byte{5, 12}}, {"argument 6", api.OK, []byte{2, 6}}, {"argument 7", api.ErrRange, []byte{2, 7}},
		{"method row 0", api.ErrRange, []byte{43, 0, 0}}, {"method row 65", api.ErrRange, []byte{43, 65, 0}}, {"spec row 0", api.ErrRange, []byte{62, 0, 0}}, {"spec row 16384", api.ErrRange, []byte{62, 0, 64}}, {"field row 0", api.ErrRange, []byte{48, 0, 0}}, {"field row 65", api.ErrRange, []byte{48, 65, 0}},
		{"a way to the end", api.ErrFlow, []byte{34, 0, 0}}, {"a way into an instruction", api.ErrFlow, []byte{34, 254, 255}}, {"a way back", api.OK, []byte{34, 253, 255}},
		{"the last method", api.OK, []byte{43, 7, 0}}, {"the method behind it", api.ErrToken, []byte{1, 43, 8, 0}}, {"method row 64", api.ErrToken, []byte{44, 64, 0, 1}},
		{"the last field", api.OK, []byte{48, 6, 0}}, {"the field behind it", api.ErrToken, []byte{48, 7, 0}}, {"field row 64", api.ErrToken, []byte{1, 1, 53, 64, 0}},
		{"the last spec", api.OK, []byte{62, 4, 0}}, {"the spec behind it", api.ErrToken, []byte{62, 5, 0}}, {"spec row 16383", api.ErrToken, []byte{1, 68, 255, 63}},
	} {
		for _, row := range []int{0, 1, 6} {
			wantTurned(t, x.told, setBody(row, api.Body{Code: x.b}), x.e, 2, row)
		}
	}
	h, f := Load(turned(t, setBody(0, api.Body{Code: []byte{62, 4, 0, 43, 7, 0, 48, 6, 0, 34, 247, 255}})))
	want := []api.Instr{{Op: api.OBox, T: arrayOf(class(2), 3)}, {Op: api.OCall, Arg: 6}, {Op: api.OLdfld, Arg: 5}, {Op: api.OBr, Arg: 1}}
	if f != (api.Fault{}) || !slices.Equal(h.Methods[0].Code, want) {
		t.Error(h.Methods, f)
	}
}

// someBody is the code box, nop, box, nop, nop, nop (of the specs 1 and 4), and the clauses l.
func someBody(l ...api.Raw) api.Body {
	return api.Body{Code: []byte{62, 1, 0, 1, 62, 4, 0, 1, 1, 1}, Clauses: l}
}

// P10.2: clauses; of someBody instructions begin at 0, 3, 4, 7, 8 and 9, and 10 is the end.
func TestLoadClauses(t *testing.T) {
	for _, x := range []struct {
		told string
		e    api.Errno
		l    []api.Raw
	}{
		{"catch", api.OK, []api.Raw{{Kind: 1, TryLen: 3, HandAt: 3, HandLen: 7, Extra: 1}}}, {"the last spec", api.OK, []api.Raw{{Kind: 1, TryLen: 3, HandAt: 3, HandLen: 7, Extra: 4}}},
		{"filter", api.OK, []api.Raw{{Kind: 2, TryLen: 3, HandAt: 4, HandLen: 4, Extra: 3}}}, {"finally", api.OK, []api.Raw{{Kind: 3, TryAt: 4, TryLen: 3, HandAt: 0, HandLen: 3}}}, {"fault", api.OK, []api.Raw{{Kind: 4, TryAt: 9, TryLen: 1, HandAt: 8, HandLen: 1}}},
		{"kind 0", api.ErrRegion, []api.Raw{{Kind: 0, TryLen: 3, HandAt: 3, HandLen: 1}}}, {"kind 5", api.ErrRegion, []api.Raw{{Kind: 5, TryLen: 3, HandAt: 3, HandLen: 1}}},
		{"a part that begins within", api.ErrRegion, []api.Raw{{Kind: 3, TryAt: 1, TryLen: 2, HandAt: 3, HandLen: 1}}}, {"a part that ends within", api.ErrRegion, []api.Raw{{Kind: 3, TryLen: 3, HandAt: 3, HandLen: 2}}}, {"an empty part", api.ErrRegion, []api.Raw{{Kind: 3, TryLen: 3, HandAt: 3}}}, {"a part behind the end", api.ErrRegion, []api.Raw{{Kind: 3, TryLen: 3, HandAt: 9, HandLen: 2}}},
		{"a filter within", api.ErrRegion, []api.Raw{{Kind: 2, TryLen: 3, HandAt: 7, HandLen: 1, Extra: 5}}}, {"a filter at the end", api.ErrRegion, []api.Raw{{Kind: 2, TryLen: 3, HandAt: 7, HandLen: 1, Extra: 10}}},
		{"spec 0", api.ErrToken, []api.Raw{{Kind: 1, TryLen: 3, HandAt: 3, HandLen: 7, Extra: 0}}}, {"the spec behind the last", api.ErrToken, []api.Raw{{Kind: 1, TryLen: 3, HandAt: 3, HandLen: 7, Extra: 5}}}, {"spec 65535", api.ErrToken, []api.Raw{{Kind: 1, TryLen: 3, HandAt: 3, HandLen: 7, Extra: 65535}}},
		{"Extra of finally", api.ErrForm, []api.Raw{{Kind: 3, TryLen: 3, HandAt: 3, HandLen: 7, Extra: 1}}}, {"Extra of fault", api.ErrForm, []api.Raw{{Kind: 4, TryLen: 3, HandAt: 3, HandLen: 7, Extra: 65535}}},
		{"a filter at what handles", api.ErrRange, []api.Raw{{Kind: 2, TryLen: 3, HandAt: 7, HandLen: 1, Extra: 7}}}, {"regions that share", api.ErrRegion, []api.Raw{{Kind: 3, TryLen: 4, HandAt: 3, HandLen: 1}}},
		{"a filter that shares", api.ErrRegion, []api.Raw{{Kind: 2, TryLen: 4, HandAt: 7, HandLen: 1, Extra: 3}}}, {"an outer one ahead", api.ErrRegion, []api.Raw{{Kind: 3, TryLen: 7, HandAt: 7, HandLen: 1}, {Kind: 3, TryLen: 3, HandAt: 3, HandLen: 1}}}, {"an inner one ahead", api.OK, []api.Raw{{Kind: 3, TryLen: 3, HandAt: 3, HandLen: 1}, {Kind: 3, TryLen: 7, HandAt: 7, HandLen: 1}}},
	} {
		for _, row := range []int{0, 1, 6} {
			wantTurned(t, x.told, setBody(row, someBody(x.l...)), x.e, 2, row)
		}
	}
	h, f := Load(turned(t, setBody(6, someBody(api.Raw{Kind: 2, TryLen: 3, HandAt: 7, HandLen: 2, Extra: 4}, api.Raw{Kind: 1, TryLen: 3, HandAt: 3, HandLen: 1, Extra: 4}))))
	want := []api.Clause{{Kind: 2, TryTo: 1, HandFrom: 3, HandTo: 5, Filter: 2}, {Kind: 1, TryTo: 1, HandFrom: 1, HandTo: 2, Filter: -1, T: arrayOf(class(2), 3)}}
	if f != (api.Fault{}) || !slices.Equal(h.Methods[6].Clauses, want) {
		t.Error(h.Methods, f)
	}
}

// P10.2: within one body: what stands in the code, then what clauses are, clause by clause, then how they lie.
func TestLoadBodyOrder(t *testing.T) {
	bad := map[string]api.Raw{
		"region": {Kind: 5},
		"token":  {Kind: 1, TryLen: 3, HandAt: 3, HandLen: 1, Extra: 5},
		"both":   {Kind: 1, TryLen: 3, HandAt: 3, HandLen: 2, Extra: 5},
		"form":   {Kind: 3, TryLen: 3, HandAt: 3, HandLen: 1, Extra: 1},
		"formed": {Kind: 3, TryLen: 3, HandAt: 3, HandLen: 2, Extra: 1},
		"shares": {Kind: 3, TryLen: 4, HandAt: 3, HandLen: 1},
		"range":  {Kind: 2, TryLen: 3, HandAt: 3, HandLen: 1, Extra: 7},
	}
	for _, x := range []struct {
		told string
		code []byte
		e    api.Errno
	}{
		{"region", nil, api.ErrRegion}, {"both", nil, api.ErrRegion}, {"formed", nil, api.ErrRegion},
		{"token", nil, api.ErrToken}, {"token region", nil, api.ErrToken}, {"region token", nil, api.ErrRegion}, {"token both", nil, api.ErrToken}, {"both token", nil, api.ErrRegion},
		{"token form", nil, api.ErrToken}, {"region form", nil, api.ErrRegion}, {"form", nil, api.ErrForm},
		{"shares form", nil, api.ErrForm}, {"shares token", nil, api.ErrToken}, {"range token", nil, api.ErrToken}, {"range form", nil, api.ErrForm}, {"shares region", nil, api.ErrRegion}, {"range region", nil, api.ErrRegion},
		{"range shares", nil, api.ErrRange}, {"shares range", nil, api.ErrRegion},
		{"region", []byte{43, 8, 0}, api.ErrToken}, {"form", []byte{43, 8, 0}, api.ErrToken}, {"range", []byte{48, 7, 0}, api.ErrToken}, {"shares", []byte{62, 5, 0}, api.ErrToken},
		{"region", []byte{0}, api.ErrForm}, {"token", []byte{34, 0, 0}, api.ErrFlow}, {"token", []byte{43, 8, 0, 34, 0, 0}, api.ErrFlow}, {"token", []byte{43, 8, 0, 8}, api.ErrShort}, {"form", []byte{62, 5, 0, 5, 12}, api.ErrRange},
	} {
		b := someBody()
		b.Code = append(b.Code, x.code...)
		for _, name := range strings.Fields(x.told) {
			b.Clauses = append(b.Clauses, bad[name])
		}
		wantTurned(t, x.told, setBody(5, b), x.e, 2, 5)
	}
}

// P10.2: Entry is none, the first, the last; beyond at last.
func TestLoadEntry(t *testing.T) {
	for _, x := range []struct {
		entry int
		e     api.Errno
	}{{0, api.OK}, {1, api.OK}, {7, api.OK}, {8, api.ErrToken}, {65535, api.ErrToken}} {
		b := turned(t, func(p *parts) { p.entry = x.entry })
		if x.e == api.OK {
			g := rich()
			g.Entry = x.entry - 1
			wantLoad(t, b, g)
		} else {
			wantFault(t, "entry", b, x.e, api.PMean, 393216)
		}
	}
}

// wrong is one thing of the rich image turned, and the fault that it is.
type wrong struct {
	fault  api.Fault
	change func(p *parts)
}

func mean(e api.Errno, table, row int, change func(p *parts)) wrong {
	return wrong{api.Fault{E: e, Part: api.PMean, At: 65536*table + row}, change}
}

func notFound(part int, change func(p *parts)) wrong {
	return wrong{api.Fault{E: api.ErrRange, Part: part, At: nowhere}, change}
}

// inOrder is wrongs in the order in which they are told.
func inOrder() []wrong {
	var l []wrong
	for table := range 6 {
		l = append(l, mean(api.ErrFull, table, 0, func(p *parts) {
			for n := mostRows[table] + 1; len(p.rows[table]) < n; {
				p.rows[table] = append(p.rows[table], p.rows[table][0])
			}
		}))
	}
	// Specs and locals have one column: what is told of a row is told ahead of any later one.
	l = append(l,
		notFound(3, set(4, 0, 0, nowhere)), mean(api.ErrForm, 4, 1, setBlob(4, 1, 2)), mean(api.ErrType, 4, 2, setBlob(4, 2, 0x10, 8)), mean(api.ErrToken, 4, 3, setBlob(4, 3, 0x12, 24)),
		notFound(3, set(5, 0, 0, nowhere)), mean(api.ErrType, 5, 0, setBlob(5, 0, 7, 1, 1)), mean(api.ErrToken, 5, 1, setBlob(5, 1, 7, 1, 0x12, 24)),
	)
	for row := range 5 {
		l = append(l, notFound(2, set(0, row, 1, nowhere)), mean(api.ErrRange, 0, row, set(0, row, 0, 32)), mean(api.ErrToken, 0, row, set(0, row, upOf, 6)))
	}
	for row := range 7 {
		l = append(l, mean(api.ErrToken, 3, row, set(3, row, 1, 6)), mean(api.ErrToken, 3, row, set(3, row, 0, 0)))
	}
	for row := range 5 {
		l = append(l, mean(api.ErrRange, 0, row, set(0, row, 3, 9)))
	}
	for row := range 6 {
		l = append(l, mean(api.ErrRange, 1, row, set(1, row, 0, 2)), notFound(2, set(1, row, 1, nowhere)), notFound(3, set(1, row, 2, nowhere)), mean(api.ErrType, 1, row, setBlob(1, row, 6, 1)), mean(api.ErrToken, 1, row, setBlob(1, row, 6, 0x12, 24)))
	}
	for row := range 5 {
		l = append(l, mean(api.ErrRange, 0, row, set(0, row, 4, 9)))
	}
	for row := range 7 {
		static := byte(rich().Methods[row].Flags & 1)
		l = append(l,
			mean(api.ErrRange, 2, row, set(2, row, 1, 32)), mean(api.ErrRange, 2, row, set(2, row, stackOf, 13)), notFound(2, set(2, row, 3, nowhere)), notFound(3, set(2, row, 4, nowhere)),
			mean(api.ErrType, 2, row, setBlob(2, row, 0x20*static, 0, 0x10, 0x12, 24)), mean(api.ErrForm, 2, row, setBlob(2, row, 0x20*static, 0, 0x12, 24)), mean(api.ErrToken, 2, row, setBlob(2, row, 0x20*(1-static), 0, 0x12, 24)), mean(api.ErrToken, 2, row, set(2, row, localsCol, 3)),
			notFound(4, set(2, row, placeOf, nowhere+1)), mean(api.ErrFlow, 2, row, setBody(row, api.Body{Code: []byte{43, 8, 0, 34, 0, 0}})), mean(api.ErrToken, 2, row, setBody(row, api.Body{Code: []byte{43, 8, 0}})), mean(api.ErrForm, 2, row, setBody(row, someBody(api.Raw{Kind: 4, TryLen: 3, HandAt: 3, HandLen: 1, Extra: 1}))),
			mean(api.ErrRegion, 2, row, setBody(row, someBody(api.Raw{Kind: 4, TryLen: 4, HandAt: 3, HandLen: 1}))),
		)
	}
	return append(l, mean(api.ErrToken, 6, 0, func(p *parts) { p.entry = 8 }))
}

// P10.2: each wrong alone, and of each two the one that the chapter names first, wherever both stand.
func TestLoadOrder(t *testing.T) {
	l := inOrder()
	first := partsOf(t, rich())
	want := func(told string, p *parts, f api.Fault) {
		t.Helper()
		wantFault(t, told, p.plainBytesOrWide(), f.E, f.Part, f.At)
	}
	for i, x := range l {
		p := first.copy()
		x.change(p)
		want("alone", p, x.fault)
		for _, y := range l[i+1:] {
			p := first.copy()
			// Where both change one thing, the one that is told first is the last to do so.
			y.change(p)
			x.change(p)
			want("two", p, x.fault)
		}
		if t.Failed() {
			t.Fatal("wrong", i)
		}
	}
}

// P10.2: the whole ahead of its rows, and these ahead of what they mean.
func TestLoadOrderOfParts(t *testing.T) {
	for i, x := range inOrder() {
		p := partsOf(t, rich())
		x.change(p)
		b := p.plainBytesOrWide()
		b[56] = 4
		wantFault(t, "rows", b, api.ErrForm, api.PRows, 0)
		b[4] = 0
		wantFault(t, "image", b, api.ErrForm, api.PImage, 4)
		if t.Failed() {
			t.Fatal("wrong", i)
		}
	}
}

// copy is p in memory of its own.
func (p *parts) copy() *parts {
	q := &parts{entry: p.entry, names: bytes.Clone(p.names), blobs: bytes.Clone(p.blobs), code: bytes.Clone(p.code)}
	for _, table := range p.rows {
		var l [][]int
		for _, row := range table {
			l = append(l, slices.Clone(row))
		}
		q.rows = append(q.rows, l)
	}
	return q
}

// plainBytesOrWide are the parts with narrow rows where there are many.
func (p *parts) plainBytesOrWide() []byte {
	if len(p.rows[4]) > 1000 {
		return p.plainBytes()
	}
	return p.bytes()
}

// P10.2, P10.3: bytes that aren't the plain way and are an image all the same.
func TestLoadOtherWays(t *testing.T) {
	g := rich()
	p := partsOf(t, g)
	wantLoad(t, p.bytes(), g)
	// Names within names, and those that nobody asks for.
	p.names = append(p.names, "unused\x00HeadB\x00"...)
	p.rows[0][4][1] = len(p.names) - 2
	wantLoad(t, p.bytes(), g)
	// One blob told twice, and bytes that are none.
	p.blobs = append(p.blobs, 255)
	p.rows[1][5][2] = p.blob(6, 8)
	wantLoad(t, p.bytes(), g)
	// Specs and locals told twice, and those that nobody asks for.
	p.rows[4] = append(p.rows[4], p.rows[4][0], []int{p.blob(0x0a)})
	p.rows[5] = append(p.rows[5], p.rows[5][1], []int{p.blob(7, 0)})
	p.rows[2][2][localsCol], p.rows[2][1][localsCol] = 3, 4
	wantLoad(t, p.bytes(), g)
	// Faces in another order, each type's in their own.
	p.rows[3] = [][]int{{5, 4}, {2, 5}, {4, 3}, {2, 1}, {2, 5}, {5, 4}, {2, 2}}
	wantLoad(t, p.bytes(), g)
	// Bodies in another order.
	b, e := body.Write(api.Body{Code: bytes.Repeat([]byte{1}, 160)})
	if e != api.OK {
		t.Fatal(e)
	}
	for len(p.code)%4 != 0 {
		p.code = append(p.code, 77)
	}
	p.rows[2][6][placeOf] = len(p.code) + 1
	p.code = append(p.code, b...)
	p.rows[2][0][placeOf] = len(p.code) + 1
	p.code = append(p.code, 5<<2+2, 1, 1, 1, 1, 1)
	wantLoad(t, p.bytes(), g)
	// Streams in another order, with bytes between and behind.
	x := p.bytes()
	c := slices.Concat(x[:8], x[44:56], x[32:44], x[8:20], x[20:32], x[56:], []byte{1, 2, 3})
	wantLoad(t, c, g)
	if f := wantAsModel(t, "another order", c); f != (api.Fault{}) {
		t.Error(f)
	}
}

// R4: the bytes stay as they were, spare room included; what was loaded is new memory, and no two lists of it share any.
func TestLoadFreshMemory(t *testing.T) {
	all := append(mustSave(t, rich()), 9, 9)
	b := all[:len(all)-2]
	was := bytes.Clone(all)
	g, f := Load(b)
	h, _ := Load(b)
	if f != (api.Fault{}) || !bytes.Equal(all, was) {
		t.Fatal("the bytes were changed", f)
	}
	clear(all)
	if !sameImage(g, rich()) {
		t.Error("the image hangs on the bytes")
	}
	for i := range h.Types {
		spoil(h.Types[i].Faces, -9)
	}
	for i := range h.Methods {
		m := &h.Methods[i]
		spoil(m.Params, api.Type{})
		spoil(m.Code, api.Instr{})
		spoil(m.Clauses, api.Clause{})
	}
	// Methods 0 and 3 have the same locals, as have 2 and 4, told once.
	for _, i := range []int{0, 2} {
		spoil(h.Methods[i].Locals, api.Type{})
	}
	want := rich()
	for _, i := range []int{3, 4} {
		if !slices.Equal(h.Methods[i].Locals, want.Methods[i].Locals) {
			t.Error("two methods share their locals' memory")
		}
	}
	spoil(h.Types, api.TypeDef{})
	spoil(h.Fields, api.Field{})
	spoil(h.Methods, api.Method{})
	if !sameImage(g, want) {
		t.Error("two answers share memory")
	}
}

// spoil puts x all over l, its spare room too.
func spoil[T any](l []T, x T) {
	l = l[:cap(l)]
	for i := range l {
		l[i] = x
	}
}

// R5: the same bytes are always told the same.
func TestLoadAgain(t *testing.T) {
	b := mustSave(t, rich())
	g, _ := Load(b)
	for range 10 {
		if h, f := Load(b); f != (api.Fault{}) || !sameImage(g, h) {
			t.Error(f)
		}
		if c := mustSave(t, g); !bytes.Equal(b, c) {
			t.Error("saved otherwise")
		}
		Load(b[:100])
		Save(api.Image{})
	}
}
