package image

import (
	"bytes"
	"encoding/binary"
	"fmt"
	"math/rand"
	"slices"
	"testing"

	"cattlegrid/api"
	"cattlegrid/body"
	"cattlegrid/code"
	"cattlegrid/ops"
	"cattlegrid/pool"
	"cattlegrid/regions"
	"cattlegrid/rows"
	"cattlegrid/sigs"
	"cattlegrid/streams"
)

// The types that tests use most.
var (
	void   = api.Type{Kind: api.TVoid}
	num    = api.Type{Kind: api.TInt}
	long   = api.Type{Kind: api.TLong}
	object = api.Type{Kind: api.TObject}
)

func class(i int) api.Type { return api.Type{Kind: api.TClass, Index: i} }
func value(i int) api.Type { return api.Type{Kind: api.TValue, Index: i} }
func fault(i int) api.Type { return api.Type{Kind: api.TFault, Index: i} }

func arrayOf(t api.Type, dims int) api.Type {
	t.Dims = dims
	return t
}

func refTo(t api.Type) api.Type {
	t.Ref = true
	return t
}

// short is an image whose bytes can be told by hand: see goldBytes.
func short() api.Image {
	return api.Image{
		Types: []api.TypeDef{{Name: "A", Extends: -1}, {Name: "B", Flags: 8, Extends: 0, Faces: []int{0}}},
		Fields: []api.Field{
			{Name: "f", Owner: 1, Type: num},
			{Name: "g", Owner: 1, Type: arrayOf(class(0), 1), Static: true},
		},
		Methods: []api.Method{
			{
				Name: "m", Owner: 0, Flags: api.MStatic, Params: []api.Type{num}, Ret: num, Locals: []api.Type{num, num}, Max: 2,
				Code:    []api.Instr{{Op: api.OLdc4, Arg: 7}, {Op: api.OBox, T: num}, {Op: api.OLeave, Arg: 4}, {Op: api.OLeave, Arg: 4}, {Op: api.ORet}},
				Clauses: []api.Clause{{Kind: api.CCatch, TryTo: 3, HandFrom: 3, HandTo: 4, Filter: -1, T: object}},
			},
			{Name: "f", Owner: 1, Flags: api.MVirtual | api.MAbstract, Ret: void},
		},
		Entry: 0,
	}
}

// manyWays is code with every kind of operand; there are a method 5, a field 4 and a type 3.
func manyWays() []api.Instr {
	return []api.Instr{
		{Op: api.ONop}, {Op: api.OLdarg, Arg: 6}, {Op: api.OStloc, Arg: 11}, {Op: api.OLdc4, Arg: -2147483648}, {Op: api.OLdc8, Arg: -1 << 63},
		{Op: api.OBr, Arg: 0}, {Op: api.OBrtrue, Arg: 11}, {Op: api.OCall, Arg: 5}, {Op: api.OLdfld, Arg: 4}, {Op: api.ONewarr, T: arrayOf(value(3), 2)},
		{Op: api.OBox, T: value(3)}, {Op: api.OThrow},
	}
}

// allClauses are clauses of each kind, of 21 instructions or more; there is a type 2.
func allClauses() []api.Clause {
	return []api.Clause{
		{Kind: api.CFault, TryFrom: 1, TryTo: 2, HandFrom: 2, HandTo: 3, Filter: -1},
		{Kind: api.CFilter, TryFrom: 0, TryTo: 4, HandFrom: 8, HandTo: 10, Filter: 6},
		{Kind: api.CCatch, TryFrom: 0, TryTo: 4, HandFrom: 10, HandTo: 12, Filter: -1, T: fault(3)},
		{Kind: api.CFinally, TryFrom: 0, TryTo: 13, HandFrom: 13, HandTo: 20, Filter: -1},
		{Kind: api.CCatch, TryFrom: 0, TryTo: 13, HandFrom: 20, HandTo: 21, Filter: -1, T: arrayOf(class(2), 3)},
	}
}

// rich is an image with something of everything: owners that have nothing, ahead, between and behind; names, specs and locals that come again; small bodies, others, and none; clauses of each kind.
func rich() api.Image {
	nops := func(n int) []api.Instr { return slices.Repeat([]api.Instr{{Op: api.ONop}}, n) }
	return api.Image{
		Types: []api.TypeDef{
			{Name: "Empty", Flags: 0, Extends: -1},
			{Name: "B", Flags: 31, Extends: 1, Faces: []int{4, 0, 4, 1}},
			{Name: "C", Flags: 16, Extends: 4},
			{Name: "V", Flags: 9, Extends: -1, Faces: []int{2}},
			{Name: "B", Flags: 6, Extends: 0, Faces: []int{3, 3}},
		},
		Fields: []api.Field{
			{Name: "x", Owner: 1, Type: num}, {Name: "y", Owner: 1, Type: class(4), Static: true}, {Name: "x", Owner: 3, Type: arrayOf(object, 3)},
			{Name: "B", Owner: 3, Type: fault(7)}, {Name: "z", Owner: 3, Type: value(3)}, {Name: "~", Owner: 3, Type: num, Static: true},
		},
		Methods: []api.Method{
			{Name: "a", Owner: 1, Flags: 1, Ret: void, Max: 12, Code: nops(5), Locals: []api.Type{num, refTo(class(4))}},
			{Name: "x", Owner: 1, Flags: 30, Params: []api.Type{num, refTo(value(3)), arrayOf(long, 2), object, class(0), fault(0)}, Ret: arrayOf(class(4), 1)},
			{Name: "b", Owner: 1, Flags: 0, Ret: long, Code: append(nops(9), manyWays()...), Clauses: allClauses(), Locals: []api.Type{num}},
			{Name: "c", Owner: 2, Flags: 17, Ret: object, Code: nops(63), Locals: []api.Type{num, refTo(class(4))}, Max: 1},
			{Name: "c", Owner: 2, Flags: 1, Ret: void, Code: nops(64), Locals: []api.Type{num}},
			{Name: "d", Owner: 4, Flags: 2, Ret: fault(6), Code: append(manyWays(), api.Instr{Op: api.OIsinst, T: fault(3)}), Max: 3},
			{Name: "e", Owner: 4, Flags: 1, Ret: void, Code: nops(160), Max: 3},
		},
		Entry: 6,
	}
}

// everyOp is an image with all instructions.
func everyOp() api.Image {
	m := api.Method{Name: "m", Flags: 1, Ret: void}
	for op := range ops.Many() {
		x := api.Instr{Op: op + 1}
		if info, _ := ops.Of(op + 1); info.Operand == api.PType {
			x.T = arrayOf(fault(op%8), op%4)
		}
		m.Code = append(m.Code, x)
	}
	return api.Image{Types: []api.TypeDef{{Name: "T", Extends: -1}}, Fields: []api.Field{{Name: "f", Type: num}}, Methods: []api.Method{m}, Entry: -1}
}

// nothing is the image without anything.
func nothing() api.Image {
	return api.Image{Entry: -1}
}

// copyOf is g in memory of its own.
func copyOf(g api.Image) api.Image {
	g.Types, g.Fields, g.Methods = slices.Clone(g.Types), slices.Clone(g.Fields), slices.Clone(g.Methods)
	for i := range g.Types {
		g.Types[i].Faces = slices.Clone(g.Types[i].Faces)
	}
	for i := range g.Methods {
		m := &g.Methods[i]
		m.Params, m.Locals, m.Code, m.Clauses = slices.Clone(m.Params), slices.Clone(m.Locals), slices.Clone(m.Code), slices.Clone(m.Clauses)
	}
	return g
}

// sameImage tells whether both are one; nil and empty lists are (R3).
func sameImage(g, h api.Image) bool {
	return g.Entry == h.Entry && slices.Equal(g.Fields, h.Fields) &&
		slices.EqualFunc(g.Types, h.Types, func(a, b api.TypeDef) bool {
			return a.Name == b.Name && a.Flags == b.Flags && a.Extends == b.Extends && slices.Equal(a.Faces, b.Faces)
		}) &&
		slices.EqualFunc(g.Methods, h.Methods, func(a, b api.Method) bool {
			return a.Name == b.Name && a.Owner == b.Owner && a.Flags == b.Flags && a.Ret == b.Ret && a.Max == b.Max && slices.Equal(a.Params, b.Params) &&
				slices.Equal(a.Locals, b.Locals) && slices.Equal(a.Code, b.Code) && slices.Equal(a.Clauses, b.Clauses)
		})
}

func isZeroImage(g api.Image) bool {
	return len(g.Types) == 0 && len(g.Fields) == 0 && len(g.Methods) == 0 && g.Entry == 0
}

func mustSave(t *testing.T, g api.Image) []byte {
	t.Helper()
	b, e := Save(g)
	if e != api.OK || len(b) == 0 {
		t.Fatalf("Save: %d bytes, %v", len(b), e)
	}
	return b
}

// wantBack wants of a formed image what P10.3 says.
func wantBack(t *testing.T, g api.Image) []byte {
	t.Helper()
	if !Formed(g) {
		t.Fatal("not formed")
	}
	b := mustSave(t, g)
	h, f := Load(b)
	if f != (api.Fault{}) || !sameImage(g, h) {
		t.Fatalf("Load of Save: %v %v, want %v", h, f, g)
	}
	if c := mustSave(t, h); !bytes.Equal(b, c) {
		t.Fatalf("Save of what was loaded: % x, want % x", c, b)
	}
	return b
}

// wantLoad wants that the bytes are that image, and all that follows from it.
func wantLoad(t *testing.T, b []byte, want api.Image) {
	t.Helper()
	h, f := Load(b)
	if f != (api.Fault{}) || !sameImage(h, want) {
		t.Fatalf("Load: %v %v, want %v", h, f, want)
	}
	wantBack(t, h)
}

func wantFault(t *testing.T, told string, b []byte, e api.Errno, part, at int) {
	t.Helper()
	g, f := Load(b)
	if f != (api.Fault{E: e, Part: part, At: at}) || !isZeroImage(g) {
		t.Errorf("%s: Load: %v %v, want %v", told, g, f, api.Fault{E: e, Part: part, At: at})
	}
}

// wantMean wants a fault of what a row means.
func wantMean(t *testing.T, told string, b []byte, e api.Errno, table, row int) {
	t.Helper()
	wantFault(t, told, b, e, api.PMean, table<<16+row)
}

// parts are an image's bytes taken apart, so that a test can turn one thing of them.
type parts struct {
	rows        [][][]int
	entry       int
	names       []byte
	blobs, code []byte
}

func partsOf(t *testing.T, g api.Image) *parts {
	t.Helper()
	s, _, e := streams.Split(mustSave(t, g))
	if e != api.OK {
		t.Fatal(e)
	}
	x, _, e := rows.Read(s.Rows)
	if e != api.OK {
		t.Fatal(e)
	}
	return &parts{rows: x.Rows, entry: x.Entry, names: s.Names, blobs: s.Blobs, code: s.Code}
}

// widths are the columns of all tables; names and blobs are told wide, so that any number of four bytes can stand there.
var widths = [6][]int{{2, 4, 2, 2, 2}, {2, 4, 4}, {4, 2, 2, 4, 4, 2}, {2, 2}, {4}, {4}}

// stream is the rows' bytes, not the plain way: with both marks and all tables.
func (p *parts) stream() []byte {
	b := []byte{3, 63}
	for _, table := range p.rows {
		b = binary.LittleEndian.AppendUint16(b, uint16(len(table)))
	}
	b = binary.LittleEndian.AppendUint16(b, uint16(p.entry))
	for table, l := range p.rows {
		for _, row := range l {
			for i, width := range widths[table] {
				if width == 2 {
					b = binary.LittleEndian.AppendUint16(b, uint16(row[i]))
				} else {
					b = binary.LittleEndian.AppendUint32(b, uint32(row[i]))
				}
			}
		}
	}
	return b
}

// bytes are the parts put together again.
func (p *parts) bytes() []byte {
	b, e := streams.Join(api.Streams{Rows: p.stream(), Names: p.names, Blobs: p.blobs, Code: p.code})
	if e != api.OK {
		panic(e)
	}
	return b
}

// blob puts one more blob, and answers its place.
func (p *parts) blob(b ...byte) int {
	at := len(p.blobs)
	p.blobs = append(append(p.blobs, byte(len(b))), b...)
	return at
}

// spec puts one more row of specs, and answers its number from 1 on.
func (p *parts) spec(b ...byte) int {
	p.rows[api.RSpec] = append(p.rows[api.RSpec], []int{p.blob(b...)})
	return len(p.rows[api.RSpec])
}

// body puts one more body, and answers its place and one.
func (p *parts) body(x api.Body) int {
	b, e := body.Write(x)
	if e != api.OK {
		panic(e)
	}
	for len(p.code)%4 != 0 {
		p.code = append(p.code, 0)
	}
	at := len(p.code) + 1
	p.code = append(p.code, b...)
	return at
}

// modelLoad is what the words of the chapter tell of the bytes b: one thing behind the other.
func modelLoad(b []byte) (api.Image, api.Fault) {
	var none api.Image
	s, at, e := streams.Split(b)
	if e != 0 {
		return none, api.Fault{E: e, Part: 0, At: at}
	}
	x, at, e := rows.Read(s.Rows)
	if e != 0 {
		return none, api.Fault{E: e, Part: 1, At: at}
	}
	for table, most := range []int{32, 64, 64, 128, 16383, 64} {
		if len(x.Rows[table]) > most {
			return none, api.Fault{E: 4, Part: 5, At: table * 65536}
		}
	}
	m := model{Streams: s, rows: x.Rows, image: api.Image{Entry: x.Entry - 1}}
	for _, part := range []func(*model) bool{(*model).allSpecs, (*model).allLocals, (*model).allTypes, (*model).allFaces, (*model).allFields, (*model).allMethods} {
		if !part(&m) {
			return none, m.fault
		}
	}
	if x.Entry > len(x.Rows[2]) {
		return none, api.Fault{E: 5, Part: 5, At: 393216}
	}
	return m.image, api.Fault{}
}

// model is an image that is being loaded; once a fault is told, false is answered by all.
type model struct {
	api.Streams
	rows   [][][]int
	image  api.Image
	specs  []api.Type
	locals [][]api.Type
	fault  api.Fault
}

func (m *model) told(e api.Errno, part, at int) bool {
	m.fault = api.Fault{E: e, Part: part, At: at}
	return e == 0
}

func (m *model) wrong(e api.Errno, table, row int) bool {
	return m.told(e, 5, table*65536+row)
}

func (m *model) name(at int, s *string) bool {
	var e api.Errno
	*s, e = pool.Name(m.Names, at)
	return e == 0 || m.told(e, 2, at)
}

func (m *model) blob(at int, b *[]byte) bool {
	var e api.Errno
	*b, e = pool.Blob(m.Blobs, at)
	return e == 0 || m.told(e, 3, at)
}

// beyond tells whether a type's number is none of the image's.
func (m *model) beyond(l ...api.Type) bool {
	return slices.ContainsFunc(l, func(t api.Type) bool { return (t.Kind == 5 || t.Kind == 6) && t.Index >= len(m.rows[0]) })
}

func (m *model) allSpecs() bool {
	for i, row := range m.rows[4] {
		var b []byte
		if !m.blob(row[0], &b) {
			return false
		}
		t, e := sigs.Get(b)
		if e != 0 {
			return m.wrong(e, 4, i)
		}
		if t.Kind == 1 || t.Ref {
			return m.wrong(10, 4, i)
		}
		if m.beyond(t) {
			return m.wrong(5, 4, i)
		}
		m.specs = append(m.specs, t)
	}
	return true
}

func (m *model) allLocals() bool {
	for i, row := range m.rows[5] {
		var b []byte
		if !m.blob(row[0], &b) {
			return false
		}
		l, e := sigs.GetLocals(b)
		if e != 0 {
			return m.wrong(e, 5, i)
		}
		if m.beyond(l...) {
			return m.wrong(5, 5, i)
		}
		m.locals = append(m.locals, l)
	}
	return true
}

func (m *model) allTypes() bool {
	for i, row := range m.rows[0] {
		d := api.TypeDef{Flags: row[0]}
		if !m.name(row[1], &d.Name) {
			return false
		}
		if row[0] > 31 {
			return m.wrong(3, 0, i)
		}
		if row[2]%4 != 0 || row[2] < 4 && row[2] > 0 || row[2]/4 > len(m.rows[0]) {
			return m.wrong(5, 0, i)
		}
		d.Extends = row[2]/4 - 1
		m.image.Types = append(m.image.Types, d)
	}
	return true
}

func (m *model) allFaces() bool {
	n := len(m.rows[0])
	for i, row := range m.rows[3] {
		if row[0] == 0 || row[0] > n || row[1] == 0 || row[1] > n {
			return m.wrong(5, 3, i)
		}
		l := &m.image.Types[row[0]-1].Faces
		if len(*l) == 4 {
			return m.wrong(4, 3, i)
		}
		*l = append(*l, row[1]-1)
	}
	return true
}

// firsts looks at the first rows that types tell, and owner asks them.
func (m *model) firsts(table, column int) bool {
	n := len(m.rows[table])
	if n > 0 && len(m.rows[0]) == 0 {
		return m.wrong(5, table, 0)
	}
	for i, row := range m.rows[0] {
		if i == 0 && row[column] != 1 || i > 0 && row[column] < m.rows[0][i-1][column] || row[column] > n+1 {
			return m.wrong(3, 0, i)
		}
	}
	return true
}

// owner is the last type whose first row isn't behind row i (from 0 on).
func (m *model) owner(column, i int) int {
	k := len(m.rows[0]) - 1
	for m.rows[0][k][column] > i+1 {
		k--
	}
	return k
}

func (m *model) allFields() bool {
	if !m.firsts(1, 3) {
		return false
	}
	for i, row := range m.rows[1] {
		f := api.Field{Owner: m.owner(3, i), Static: row[0] == 1}
		if row[0] > 1 {
			return m.wrong(3, 1, i)
		}
		var b []byte
		if !m.name(row[1], &f.Name) || !m.blob(row[2], &b) {
			return false
		}
		var e api.Errno
		if f.Type, e = sigs.GetField(b); e != 0 {
			return m.wrong(e, 1, i)
		}
		if m.beyond(f.Type) {
			return m.wrong(5, 1, i)
		}
		m.image.Fields = append(m.image.Fields, f)
	}
	return true
}

func (m *model) allMethods() bool {
	if !m.firsts(2, 4) {
		return false
	}
	for i, row := range m.rows[2] {
		x := api.Method{Owner: m.owner(4, i), Flags: row[1], Max: row[2]}
		if row[1] > 31 || row[2] > 12 {
			return m.wrong(3, 2, i)
		}
		var b []byte
		if !m.name(row[3], &x.Name) || !m.blob(row[4], &b) {
			return false
		}
		s, e := sigs.GetSig(b)
		if e != 0 {
			return m.wrong(e, 2, i)
		}
		if s.This == (row[1]%2 == 1) {
			return m.wrong(2, 2, i)
		}
		if m.beyond(s.Ret) || m.beyond(s.Params...) || row[5] > len(m.locals) {
			return m.wrong(5, 2, i)
		}
		x.Params, x.Ret = s.Params, s.Ret
		if row[5] > 0 {
			x.Locals = m.locals[row[5]-1]
		}
		if row[0] > 0 && !m.body(i, row[0]-1, &x) {
			return false
		}
		m.image.Methods = append(m.image.Methods, x)
	}
	return true
}

func (m *model) body(i, place int, x *api.Method) bool {
	b, _, e := body.Read(m.Code, place)
	if e != 0 {
		return m.told(e, 4, place)
	}
	l, places, _, e := code.Decode(b.Code)
	if e != 0 {
		return m.wrong(e, 2, i)
	}
	for _, in := range l {
		switch info, _ := ops.Of(in.Op); {
		case info.Operand == api.PType && int(in.Arg) > len(m.specs), info.Operand == api.PMethod && int(in.Arg) >= len(m.rows[2]), info.Operand == api.PField && int(in.Arg) >= len(m.rows[1]):
			return m.wrong(5, 2, i)
		case info.Operand == api.PType:
			in = api.Instr{Op: in.Op, T: m.specs[in.Arg-1]}
		}
		x.Code = append(x.Code, in)
	}
	for _, r := range b.Clauses {
		c, e := body.Resolve(places, r)
		if e != 0 {
			return m.wrong(e, 2, i)
		}
		if r.Kind == 1 && (r.Extra == 0 || r.Extra > len(m.specs)) {
			return m.wrong(5, 2, i)
		}
		if r.Kind > 2 && r.Extra != 0 {
			return m.wrong(2, 2, i)
		}
		if r.Kind == 1 {
			c.T = m.specs[r.Extra-1]
		}
		x.Clauses = append(x.Clauses, c)
	}
	if _, e := regions.Check(len(l), x.Clauses); e != 0 {
		return m.wrong(e, 2, i)
	}
	return true
}

// wantAsModel wants that the bytes are loaded as the words have it, and that what was loaded is formed, saved and loaded again.
func wantAsModel(t *testing.T, told string, b []byte) api.Fault {
	t.Helper()
	want, wantF := modelLoad(b)
	g, f := Load(b)
	if f != wantF || !sameImage(g, want) {
		t.Fatalf("%s: Load: %v %v, want %v %v", told, g, f, want, wantF)
	}
	if f != (api.Fault{}) {
		return f
	}
	if !Formed(g) {
		t.Fatalf("%s: %v was loaded and isn't formed", told, g)
	}
	c, e := Save(g)
	if e == api.ErrFull {
		return f
	}
	h, f := Load(c)
	if e != api.OK || f != (api.Fault{}) || !sameImage(g, h) {
		t.Fatalf("%s: Save of %v: %v, loaded %v %v", told, g, e, h, f)
	}
	return f
}

// randomType is a type of which the number is one of n types'.
func randomType(r *rand.Rand, n int, ref bool) api.Type {
	t := api.Type{Kind: api.TInt + r.Intn(6), Dims: max(0, r.Intn(6)-2), Ref: ref && r.Intn(3) == 0}
	switch t.Kind {
	case api.TClass, api.TValue:
		t.Index = r.Intn(n)
	case api.TFault:
		t.Index = r.Intn(8)
	}
	return t
}

func randomTypes(r *rand.Rand, n, most int) []api.Type {
	var l []api.Type
	for range r.Intn(most + 1) {
		l = append(l, randomType(r, n, true))
	}
	return l
}

func randomName(r *rand.Rand) string {
	b := make([]byte, 1+r.Intn(1+r.Intn(24)))
	for i := range b {
		b[i] = byte(33 + r.Intn(94))
	}
	return string(b)
}

// randomInstr is one of an image of these sizes, in a code of n.
func randomInstr(r *rand.Rand, g api.Image, fields, methods, n int) api.Instr {
	x := api.Instr{Op: 1 + r.Intn(75)}
	info, _ := ops.Of(x.Op)
	switch info.Operand {
	case api.PNum4:
		x.Arg = int64(int32(r.Uint32()))
	case api.PNum8:
		x.Arg = int64(r.Uint64())
	case api.PLocal:
		x.Arg = int64(r.Intn(12))
	case api.PArg:
		x.Arg = int64(r.Intn(7))
	case api.PPlace:
		x.Arg = int64(r.Intn(n))
	case api.PMethod:
		x.Arg = int64(r.Intn(methods))
	case api.PField:
		if fields == 0 {
			return api.Instr{Op: api.ONop}
		}
		x.Arg = int64(r.Intn(fields))
	case api.PType:
		x.T = randomType(r, len(g.Types), false)
	}
	return x
}

func randomClauses(r *rand.Rand, g api.Image, n int) []api.Clause {
	var l []api.Clause
	for range r.Intn(20) {
		c := api.Clause{Kind: 1 + r.Intn(4), TryFrom: r.Intn(n), HandFrom: r.Intn(n), Filter: -1}
		c.TryTo, c.HandTo = c.TryFrom+1+r.Intn(1+r.Intn(8)), c.HandFrom+1+r.Intn(1+r.Intn(8))
		switch c.Kind {
		case api.CCatch:
			c.T = randomType(r, len(g.Types), false)
		case api.CFilter:
			c.Filter = max(0, c.HandFrom-1-r.Intn(4))
		}
		if _, e := regions.Check(n, append(l, c)); e == api.OK {
			l = append(l, c)
		}
	}
	return l
}

// randomImage is a formed one.
func randomImage(r *rand.Rand) api.Image {
	g := api.Image{}
	n := 1 + r.Intn(32)
	for range n {
		d := api.TypeDef{Name: randomName(r), Flags: r.Intn(32), Extends: r.Intn(n+1) - 1}
		for range r.Intn(5) {
			d.Faces = append(d.Faces, r.Intn(n))
		}
		g.Types = append(g.Types, d)
	}
	fields, methods := r.Intn(65), r.Intn(1+r.Intn(65))
	for range fields {
		g.Fields = append(g.Fields, api.Field{Name: randomName(r), Owner: r.Intn(n), Type: randomType(r, n, false), Static: r.Intn(2) == 0})
	}
	for range methods {
		m := api.Method{Name: randomName(r), Owner: r.Intn(n), Flags: r.Intn(32), Ret: void, Max: r.Intn(13), Params: randomTypes(r, n, 6), Locals: randomTypes(r, n, 12)}
		if r.Intn(4) > 0 {
			m.Ret = randomType(r, n, false)
		}
		if size := r.Intn(1 + r.Intn(161)); size > 0 {
			for range size {
				m.Code = append(m.Code, randomInstr(r, g, fields, methods, size))
			}
			m.Clauses = randomClauses(r, g, size)
		}
		g.Methods = append(g.Methods, m)
	}
	slices.SortStableFunc(g.Fields, func(a, b api.Field) int { return a.Owner - b.Owner })
	slices.SortStableFunc(g.Methods, func(a, b api.Method) int { return a.Owner - b.Owner })
	g.Entry = r.Intn(methods+1) - 1
	return g
}

// The chapter's example: an image without anything.
func TestExample(t *testing.T) {
	b := wantBack(t, nothing())
	h, f := Load(b)
	if h.Entry != -1 || len(h.Types)+len(h.Fields)+len(h.Methods) != 0 || f.E != api.OK {
		t.Error(h, f)
	}
}

// P10.3: there and back, of images that have been thought out.
func TestBack(t *testing.T) {
	for _, g := range []api.Image{short(), rich(), everyOp(), nothing()} {
		wantBack(t, g)
	}
}

// P10.3: there and back, of images of all kinds; and again of their bytes with the parts told otherwise.
func TestBackOfMany(t *testing.T) {
	r := rand.New(rand.NewSource(10))
	clauses := map[int]int{}
	for range 150 {
		g := randomImage(r)
		b := wantBack(t, g)
		if f := wantAsModel(t, "as saved", b); f != (api.Fault{}) {
			t.Fatal(f)
		}
		p := partsOf(t, g)
		for p.spec(8) < 400 && r.Intn(20) > 0 {
		}
		p.names, p.blobs, p.code = append(p.names, 1, 2, 3), append(p.blobs, 255), append(p.code, 255)
		wantLoad(t, p.bytes(), g)
		for _, m := range g.Methods {
			clauses[len(m.Clauses)]++
		}
	}
	for n := range 7 {
		if clauses[n] == 0 {
			t.Error("no method with so many clauses:", n)
		}
	}
}

// P10.2 and P10.3: whatever one byte is turned to, it is as the words have it.
func TestEveryByteTurned(t *testing.T) {
	for i, g := range []api.Image{short(), rich(), everyOp(), nothing()} {
		b := mustSave(t, g)
		seen := map[api.Fault]bool{}
		for at := range b {
			for _, x := range []byte{0, 1, 2, 3, 4, 5, 7, 8, 11, 16, 32, 64, 127, 128, 192, 255, b[at] - 1, b[at] + 1, b[at] ^ 16, b[at] ^ 128} {
				c := bytes.Clone(b)
				c[at] = x
				seen[wantAsModel(t, fmt.Sprint("image ", i, " byte ", at, " is ", x), c)] = true
			}
		}
		if least := []int{60, 100, 60, 10}[i]; len(seen) < least {
			t.Errorf("image %d: %d faults only", i, len(seen))
		}
	}
}

// P10.2 and P10.3: likewise of some bytes at a time, and of bytes that are taken out and put in.
func TestManyBytesTurned(t *testing.T) {
	r := rand.New(rand.NewSource(7))
	for i, g := range []api.Image{short(), rich(), everyOp()} {
		b := mustSave(t, g)
		for k := range 6000 {
			c := bytes.Clone(b)
			for range 1 + r.Intn(4) {
				at := r.Intn(len(c))
				// A turned head is soon told: what stands behind it is turned more often.
				if at < 56 && r.Intn(10) > 0 {
					at = 56 + r.Intn(len(c)-56)
				}
				switch r.Intn(12) {
				case 0:
					c = append(c[:at:at], c[at+1:]...)
				case 1:
					c = slices.Insert(c, at, byte(r.Intn(256)))
				case 2:
					c[at] = byte(r.Intn(256))
				default:
					c[at] = c[r.Intn(len(c))]
				}
			}
			wantAsModel(t, fmt.Sprint("image ", i, " turn ", k), c)
		}
	}
}

// P10.2: bytes that are cut off, and bytes put behind.
func TestEveryLength(t *testing.T) {
	for i, g := range []api.Image{short(), rich(), nothing()} {
		b := mustSave(t, g)
		for n := range b {
			f := wantAsModel(t, fmt.Sprint("image ", i, " length ", n), b[:n])
			if n < 56 {
				wantFault(t, "cut off within the head", b[:n], api.ErrShort, api.PImage, n)
			}
			if f == (api.Fault{}) {
				t.Errorf("image %d of %d bytes is loaded", i, n)
			}
		}
		wantLoad(t, append(bytes.Clone(b), 1, 2, 3), g)
	}
}

// R1: none of them panics at what isn't an image at all.
func TestRandomBytes(t *testing.T) {
	r := rand.New(rand.NewSource(3))
	head := mustSave(t, short())[:56]
	for range 3000 {
		b := make([]byte, r.Intn(400))
		r.Read(b)
		if r.Intn(2) == 0 {
			copy(b, head)
		}
		wantAsModel(t, "random bytes", b)
	}
	wantFault(t, "no bytes", nil, api.ErrShort, api.PImage, 0)
	wantFault(t, "no bytes", []byte{}, api.ErrShort, api.PImage, 0)
}
