package image

import (
	"bytes"
	"math/rand"
	"slices"
	"strings"
	"testing"

	"cattlegrid/api"
	"cattlegrid/body"
	"cattlegrid/code"
	"cattlegrid/ops"
	"cattlegrid/pool"
	"cattlegrid/rows"
	"cattlegrid/sigs"
	"cattlegrid/streams"
)

// goldBytes are those of the short image, told by hand.
func goldBytes() []byte {
	head := []byte{
		'C', 'G', 'R', 'D', 1, 0, 4, 0,
		56, 0, 0, 0, 86, 0, 0, 0, 'R', 'O', 'W', 'S',
		144, 0, 0, 0, 11, 0, 0, 0, 'N', 'A', 'M', 'E',
		156, 0, 0, 0, 27, 0, 0, 0, 'B', 'L', 'O', 'B',
		184, 0, 0, 0, 40, 0, 0, 0, 'C', 'O', 'D', 'E',
	}
	tables := []byte{
		// No marks, all tables, how many rows of each, and the first method as the entry.
		0, 63, 2, 0, 2, 0, 2, 0, 1, 0, 2, 0, 1, 0, 1, 0,
		// Types: A has no fields ahead of B's, and the first method; B extends A, and has the second method.
		0, 0, 1, 0, 0, 0, 1, 0, 1, 0,
		8, 0, 3, 0, 4, 0, 1, 0, 2, 0,
		// Fields.
		0, 0, 5, 0, 1, 0,
		1, 0, 7, 0, 4, 0,
		// Methods: the first one's body is at 0, which is told as 1.
		1, 0, 0, 0, 1, 0, 2, 0, 9, 0, 9, 0, 1, 0,
		0, 0, 0, 0, 6, 0, 0, 0, 5, 0, 14, 0, 0, 0,
		// A face, specs, locals; and two bytes 0 up to a multiple of 4.
		2, 0, 1, 0,
		18, 0, 20, 0,
		22, 0,
		0, 0,
	}
	names := []byte{0, 'A', 0, 'B', 0, 'f', 0, 'g', 0, 'm', 0, 0}
	blobs := []byte{
		0,
		2, 6, 8,
		4, 6, 0x1d, 0x12, 4,
		4, 0, 1, 8, 8,
		3, 0x20, 0, 1,
		1, 8,
		1, 0x1c,
		4, 7, 2, 8, 8,
		0,
	}
	bodies := []byte{
		11, 0, 0, 0, 15, 0, 0, 0,
		8, 7, 0, 0, 0, 62, 1, 0, 71, 3, 0, 71, 0, 0, 46,
		0, 1, 1, 0, 0,
		1, 0, 0, 0, 11, 0, 11, 0, 3, 0, 2, 0,
	}
	return slices.Concat(head, tables, names, blobs, bodies)
}

// P10.1: byte by byte.
func TestSaveByteByByte(t *testing.T) {
	if b := mustSave(t, short()); !bytes.Equal(b, goldBytes()) {
		t.Errorf("% x, want % x", b, goldBytes())
	}
	wantLoad(t, goldBytes(), short())
	empty := []byte{
		'C', 'G', 'R', 'D', 1, 0, 4, 0,
		56, 0, 0, 0, 4, 0, 0, 0, 'R', 'O', 'W', 'S',
		60, 0, 0, 0, 1, 0, 0, 0, 'N', 'A', 'M', 'E',
		64, 0, 0, 0, 1, 0, 0, 0, 'B', 'L', 'O', 'B',
		68, 0, 0, 0, 0, 0, 0, 0, 'C', 'O', 'D', 'E',
		0, 0, 0, 0, 0, 0, 0, 0, 0, 0, 0, 0,
	}
	if b := mustSave(t, nothing()); !bytes.Equal(b, empty) {
		t.Errorf("% x, want % x", b, empty)
	}
}

// list is things in the order in which they come first; row is the row of x, from 1 on.
type list[T any] struct {
	l    []T
	same func(a, b T) bool
}

func (s *list[T]) row(x T) int {
	i := slices.IndexFunc(s.l, func(y T) bool { return s.same(x, y) })
	if i < 0 {
		s.l = append(s.l, x)
		i = len(s.l) - 1
	}
	return i + 1
}

// modelSave is what the words of the chapter tell of the bytes of g, which is formed and isn't too long.
func modelSave(t *testing.T, g api.Image) []byte {
	t.Helper()
	no := func(e api.Errno) {
		t.Helper()
		if e != api.OK {
			t.Fatal(e)
		}
	}
	specs := list[api.Type]{same: func(a, b api.Type) bool { return a == b }}
	locals := list[[]api.Type]{same: slices.Equal[[]api.Type]}
	var stream []byte
	var names []string
	var blobs [][]byte
	l := make([][][]int, 6)
	for i, d := range g.Types {
		names = append(names, d.Name)
		up := 0
		if d.Extends >= 0 {
			up = 4 * (d.Extends + 1)
		}
		field, method := 1, 1
		for _, f := range g.Fields {
			if f.Owner < i {
				field++
			}
		}
		for _, m := range g.Methods {
			if m.Owner < i {
				method++
			}
		}
		l[0] = append(l[0], []int{d.Flags, 0, up, field, method})
		for _, face := range d.Faces {
			l[3] = append(l[3], []int{i + 1, face + 1})
		}
	}
	for _, f := range g.Fields {
		names = append(names, f.Name)
		b, e := sigs.PutField(f.Type)
		no(e)
		blobs = append(blobs, b)
		flags := 0
		if f.Static {
			flags = 1
		}
		l[1] = append(l[1], []int{flags, 0, 0})
	}
	for _, m := range g.Methods {
		names = append(names, m.Name)
		b, e := sigs.PutSig(api.Sig{This: m.Flags&1 == 0, Params: m.Params, Ret: m.Ret})
		no(e)
		blobs = append(blobs, b)
		row := []int{0, m.Flags, m.Max, 0, 0, 0}
		if len(m.Locals) > 0 {
			row[5] = locals.row(m.Locals)
		}
		if len(m.Code) > 0 {
			raw := slices.Clone(m.Code)
			for i, x := range raw {
				if info, _ := ops.Of(x.Op); info.Operand == api.PType {
					raw[i] = api.Instr{Op: x.Op, Arg: int64(specs.row(x.T))}
				}
			}
			var x api.Body
			x.Code, e = code.Encode(raw)
			no(e)
			places, e := code.Places(raw)
			no(e)
			for _, c := range m.Clauses {
				r, e := body.Raw(places, c)
				no(e)
				if c.Kind == 1 {
					r.Extra = specs.row(c.T)
				}
				x.Clauses = append(x.Clauses, r)
			}
			b, e := body.Write(x)
			no(e)
			for (len(x.Code) >= 64 || len(x.Clauses) > 0) && len(stream)%4 != 0 {
				stream = append(stream, 0)
			}
			row[0] = len(stream) + 1
			stream = append(stream, b...)
		}
		l[2] = append(l[2], row)
	}
	for _, x := range specs.l {
		b, e := sigs.Put(x)
		no(e)
		blobs = append(blobs, b)
		l[4] = append(l[4], []int{0})
	}
	for _, x := range locals.l {
		b, e := sigs.PutLocals(x)
		no(e)
		blobs = append(blobs, b)
		l[5] = append(l[5], []int{0})
	}
	namePool, namesAt, e := pool.Names(names)
	no(e)
	blobPool, blobsAt, e := pool.Blobs(blobs)
	no(e)
	take := func(l *[]int) int {
		x := (*l)[0]
		*l = (*l)[1:]
		return x
	}
	for _, column := range []struct{ table, name, blob int }{{0, 1, -1}, {1, 1, 2}, {2, 3, 4}, {4, -1, 0}, {5, -1, 0}} {
		for _, row := range l[column.table] {
			if column.name >= 0 {
				row[column.name] = take(&namesAt)
			}
			if column.blob >= 0 {
				row[column.blob] = take(&blobsAt)
			}
		}
	}
	b, e := rows.Write(api.Tables{Entry: g.Entry + 1, Rows: l})
	no(e)
	all, e := streams.Join(api.Streams{Rows: b, Names: namePool, Blobs: blobPool, Code: stream})
	no(e)
	return all
}

// P10.1: as the words have it, of images of all kinds.
func TestSaveAsModel(t *testing.T) {
	r := rand.New(rand.NewSource(4))
	l := []api.Image{short(), rich(), everyOp(), nothing(), many(32, 64, 64), many(1, 0, 64)}
	for range 100 {
		l = append(l, randomImage(r))
	}
	for i, g := range l {
		if b, want := mustSave(t, g), modelSave(t, g); !bytes.Equal(b, want) {
			t.Fatalf("image %d: % x, want % x", i, b, want)
		}
	}
}

// loops is a static method of that owner with such code.
func loops(owner int, l ...api.Instr) api.Method {
	return api.Method{Name: "m", Owner: owner, Flags: 1, Ret: void, Code: l}
}

// P10.1: names in the order of types, fields and methods, each told once.
func TestSaveNames(t *testing.T) {
	g := many(3, 2, 2)
	for i, s := range []string{"T1", "same", "T0"} {
		g.Types[i].Name = s
	}
	g.Fields[0].Name, g.Fields[1].Name = "f", "T0"
	g.Methods[0].Name, g.Methods[1].Name = "same", "a"
	p := partsOf(t, g)
	if string(p.names) != "\x00T1\x00same\x00T0\x00f\x00a\x00" {
		t.Errorf("%q", p.names)
	}
	var at []int
	for _, row := range p.rows[0] {
		at = append(at, row[1])
	}
	at = append(at, p.rows[1][0][1], p.rows[1][1][1], p.rows[2][0][3], p.rows[2][1][3])
	if !slices.Equal(at, []int{1, 4, 9, 12, 9, 4, 14}) {
		t.Error(at)
	}
	wantBack(t, g)
}

// P10.1: blobs in the order of fields, methods, specs, locals, each told once, whatever tells it.
func TestSaveBlobs(t *testing.T) {
	g := many(1, 3, 2)
	g.Fields[1].Type = object
	g.Methods[0].Code = []api.Instr{{Op: api.OBox, T: long}}
	g.Methods[0].Locals = []api.Type{long}
	g.Methods[1].Ret = object
	p := partsOf(t, g)
	want := []byte{0, 2, 6, 8, 2, 6, 0x1c, 3, 0x20, 0, 1, 3, 0x20, 0, 0x1c, 1, 0x0a, 3, 7, 1, 0x0a}
	if !bytes.Equal(p.blobs, want) {
		t.Errorf("% x, want % x", p.blobs, want)
	}
	at := []int{p.rows[1][0][2], p.rows[1][1][2], p.rows[1][2][2], p.rows[2][0][4], p.rows[2][1][4], p.rows[4][0][0], p.rows[5][0][0]}
	if !slices.Equal(at, []int{1, 4, 1, 7, 11, 15, 17}) {
		t.Error(at)
	}
	wantBack(t, g)
}

// typesOf is what the rows of specs tell.
func typesOf(t *testing.T, p *parts) []api.Type {
	t.Helper()
	var l []api.Type
	for _, row := range p.rows[4] {
		b, e := pool.Blob(p.blobs, row[0])
		x, e2 := sigs.Get(b)
		if e != api.OK || e2 != api.OK {
			t.Fatal(e, e2)
		}
		l = append(l, x)
	}
	return l
}

// P10.1: specs each once, method by method: those of the code ahead of those of the clauses.
func TestSaveSpecs(t *testing.T) {
	g := many(1, 0, 0)
	first := loops(0, api.Instr{Op: api.OBox, T: long}, api.Instr{Op: api.ONop}, api.Instr{Op: api.ONewarr, T: num}, api.Instr{Op: api.OBox, T: long})
	first.Clauses = []api.Clause{
		{Kind: api.CCatch, TryTo: 1, HandFrom: 1, HandTo: 2, Filter: -1, T: class(0)},
		{Kind: api.CCatch, TryFrom: 0, TryTo: 1, HandFrom: 2, HandTo: 3, Filter: -1, T: num},
		{Kind: api.CFinally, TryFrom: 0, TryTo: 3, HandFrom: 3, HandTo: 4, Filter: -1},
	}
	second := loops(0, api.Instr{Op: api.OIsinst, T: arrayOf(num, 1)}, api.Instr{Op: api.OIsinst, T: class(0)}, api.Instr{Op: api.OIsinst, T: object})
	g.Methods = []api.Method{first, second}
	p := partsOf(t, g)
	want := []api.Type{long, num, class(0), arrayOf(num, 1), object}
	if got := typesOf(t, p); !slices.Equal(got, want) {
		t.Errorf("%v, want %v", got, want)
	}
	b, to, e := body.Read(p.code, 0)
	if e != api.OK || len(b.Clauses) != 3 || b.Clauses[0].Extra != 3 || b.Clauses[1].Extra != 2 || b.Clauses[2].Extra != 0 {
		t.Error(b, e)
	}
	if b, _, e = body.Read(p.code, to); e != api.OK || !bytes.Equal(b.Code, []byte{66, 4, 0, 66, 3, 0, 66, 5, 0}) {
		t.Error(b, e)
	}
	wantBack(t, g)
}

// P10.1: locals each once, in the order of the methods; none have the row 0.
func TestSaveLocals(t *testing.T) {
	g := many(1, 0, 7)
	for i, l := range [][]api.Type{{long}, {}, {num, long}, {long}, {long, num}, nil, {num, long}} {
		g.Methods[i].Locals = l
	}
	p := partsOf(t, g)
	var at []int
	for _, row := range p.rows[2] {
		at = append(at, row[5])
	}
	if !slices.Equal(at, []int{1, 0, 2, 1, 3, 0, 2}) || len(p.rows[5]) != 3 {
		t.Error(at, p.rows[5])
	}
	wantBack(t, g)
}

// P10.1: faces type by type, each type's in their order, equal ones too.
func TestSaveFaces(t *testing.T) {
	p := partsOf(t, rich())
	want := [][]int{{2, 5}, {2, 1}, {2, 5}, {2, 2}, {4, 3}, {5, 4}, {5, 4}}
	if !slices.EqualFunc(p.rows[3], want, slices.Equal[[]int]) {
		t.Errorf("%v, want %v", p.rows[3], want)
	}
}

// P10.1: types tell the row of the first field and method of this or a later one; one behind the last, if there is none.
func TestSaveOwners(t *testing.T) {
	p := partsOf(t, rich())
	var fields, methods, ups []int
	for _, row := range p.rows[0] {
		ups, fields, methods = append(ups, row[2]), append(fields, row[3]), append(methods, row[4])
	}
	if !slices.Equal(fields, []int{1, 1, 3, 3, 7}) || !slices.Equal(methods, []int{1, 1, 4, 6, 6}) || !slices.Equal(ups, []int{0, 8, 20, 0, 4}) {
		t.Error(fields, methods, ups)
	}
	p = partsOf(t, many(3, 0, 0))
	for _, row := range p.rows[0] {
		if row[3] != 1 || row[4] != 1 {
			t.Error(row)
		}
	}
}

// P10.1: bodies in the order of methods; one that isn't small at the next multiple of 4, with bytes 0 ahead; of none the place 0.
func TestSaveBodies(t *testing.T) {
	nop := api.Instr{Op: api.ONop}
	nops := func(n int) api.Method { return loops(0, slices.Repeat([]api.Instr{nop}, n)...) }
	caught := nops(3)
	caught.Clauses = []api.Clause{{Kind: api.CFault, TryTo: 1, HandFrom: 1, HandTo: 2, Filter: -1}}
	g := many(1, 0, 0)
	g.Methods = []api.Method{nops(0), nops(1), nops(2), nops(64), nops(63), nops(0), nops(2), caught, nops(65), nops(1), caught}
	p := partsOf(t, g)
	var at []int
	for _, row := range p.rows[2] {
		at = append(at, row[0])
	}
	// 0 to 2, 2 to 5, 8 to 80, 80 to 144, 144 to 147, 148 to 176, 176 to 249, 249 to 251, 252 to 280.
	if !slices.Equal(at, []int{0, 1, 3, 9, 81, 0, 145, 149, 177, 250, 253}) || len(p.code) != 280 {
		t.Error(at, len(p.code))
	}
	for _, k := range []int{5, 6, 7, 147, 251} {
		if p.code[k] != 0 {
			t.Error("what fills up at", k, "is", p.code[k])
		}
	}
	wantBack(t, g)
}

// longImage is an image of so many bytes. Its last body has nops of which each, made an ldarg, is a byte longer.
func longImage(t *testing.T, want int) api.Image {
	t.Helper()
	g := many(1, 0, 64)
	last := &g.Methods[63]
	last.Code = slices.Repeat([]api.Instr{{Op: api.ONop}}, api.MaxCode)
	for i := range 63 {
		if len(mustSave(t, g))+8+9*api.MaxCode > want {
			break
		}
		g.Methods[i].Code = slices.Repeat([]api.Instr{{Op: api.OLdc8, Arg: int64(i)}}, api.MaxCode)
	}
	left := want - len(mustSave(t, g))
	for i := range last.Code {
		switch {
		case left >= 8:
			last.Code[i].Op = api.OLdc8
			left -= 8
		case left > 0:
			last.Code[i].Op = api.OLdarg
			left--
		}
	}
	return g
}

// P10.1: all of MaxImage bytes, and one more.
func TestSaveTooLong(t *testing.T) {
	g := longImage(t, api.MaxImage)
	if b := wantBack(t, g); len(b) != api.MaxImage {
		t.Fatal(len(b))
	}
	end := &g.Methods[63].Code[api.MaxCode-1]
	if end.Op != api.ONop {
		t.Fatal(end)
	}
	end.Op = api.OLdarg
	if b, e := Save(g); e != api.ErrFull || len(b) != 0 || !Formed(g) {
		t.Errorf("%d bytes, %v", len(b), e)
	}
	for i := range g.Methods {
		g.Methods[i].Code = slices.Repeat([]api.Instr{{Op: api.OLdc8, Arg: -1}}, api.MaxCode)
	}
	if b, e := Save(g); e != api.ErrFull || len(b) != 0 || !Formed(g) {
		t.Errorf("%d bytes, %v", len(b), e)
	}
	// An image that isn't formed is told ahead of one that is too long.
	g.Entry = 64
	if b, e := Save(g); e != api.ErrArg || len(b) != 0 {
		t.Errorf("%d bytes, %v", len(b), e)
	}
}

// P10.1: the longest pools that formed images have aren't too long.
func TestSaveLongPools(t *testing.T) {
	r := rand.New(rand.NewSource(1))
	g := many(32, 64, 64)
	name := func() string {
		return strings.Repeat("~", 12) + randomName(r)[:1] + strings.Repeat(randomName(r)[:1], 11)
	}
	for i := range g.Types {
		g.Types[i].Name, g.Types[i].Faces = name(), []int{i, 31, 0, i}
	}
	for i := range g.Fields {
		g.Fields[i].Name, g.Methods[i].Name = name(), name()
		g.Fields[i].Type = arrayOf(class(i/2), i%4)
		m := &g.Methods[i]
		for k := range 6 {
			m.Params = append(m.Params, refTo(arrayOf(value((i+k)%32), 3)))
		}
		for k := range 12 {
			m.Locals = append(m.Locals, refTo(arrayOf(class((i+7*k)%32), 3-i%2)))
		}
		for k := range 160 {
			m.Code = append(m.Code, api.Instr{Op: api.OBox, T: randomType(r, 32, false)})
			if k%4 == 0 {
				m.Code[k].T = arrayOf(fault(i%8), k%4)
			}
		}
	}
	wantBack(t, g)
}

// R4: what is handed in stays as it was, spare room included; what is answered is new memory.
func TestSaveFreshMemory(t *testing.T) {
	g := rich()
	was := copyOf(g)
	spare := append(slices.Clone(g.Methods), api.Method{Name: "spare"})
	g.Methods = spare[:len(g.Methods)]
	instrs := append(slices.Clone(g.Methods[5].Code), api.Instr{Op: api.OOut})
	g.Methods[5].Code = instrs[:len(instrs)-1]
	locals := append(slices.Clone(g.Methods[0].Locals), long)
	g.Methods[0].Locals = locals[:len(locals)-1]
	a, b := mustSave(t, g), mustSave(t, g)
	if !sameImage(g, was) || spare[len(spare)-1].Name != "spare" || instrs[len(instrs)-1].Op != api.OOut || locals[len(locals)-1] != long {
		t.Error("what was handed in was changed")
	}
	clear(a[:cap(a)])
	if c := mustSave(t, g); !bytes.Equal(b, c) {
		t.Error("two answers share memory")
	}
}
