package image

import (
	"slices"

	"cattlegrid/api"
	"cattlegrid/body"
	"cattlegrid/code"
	"cattlegrid/pool"
	"cattlegrid/regions"
	"cattlegrid/rows"
	"cattlegrid/sigs"
	"cattlegrid/streams"
)

// The columns of a type's row, of a field's, of a method's and of a face's; specs and locals have one, their blob.
const (
	typeFlags   = 0
	typeName    = 1
	typeExtends = 2
	typeField   = 3
	typeMethod  = 4

	fieldFlags = 0
	fieldName  = 1
	fieldBlob  = 2

	methodPlace  = 0
	methodFlags  = 1
	methodStack  = 2
	methodName   = 3
	methodBlob   = 4
	methodLocals = 5

	faceType = 0
	faceFace = 1

	onlyBlob = 0
)

// tableStep is how far apart the places of faults are that tell one row of two tables next to each other.
const tableStep = 65536

// maxSpecs is how many rows of specs instructions can name.
const maxSpecs = 16383

// most is how many rows each table of an image may have.
var most = [tables]int{
	api.RType:   api.MaxTypes,
	api.RField:  api.MaxFields,
	api.RMethod: api.MaxMethods,
	api.RFace:   api.MaxTypes * api.MaxFaces,
	api.RSpec:   maxSpecs,
	api.RLocals: api.MaxMethods,
}

// Load is the image of the bytes b, or what is wrong with them first. Whoever meets a fault tells it by a panic, which is caught here.
func Load(b []byte) (g api.Image, f api.Fault) {
	defer func() {
		if x := recover(); x != nil {
			g, f = api.Image{}, faultOf(x)
		}
	}()
	s, at, e := streams.Split(b)
	tell(e, api.PImage, at)
	t, at, e := rows.Read(s.Rows)
	tell(e, api.PRows, at)
	return newLoader(s, t).load(), api.Fault{}
}

// faultOf is the fault that was told by a panic. What wasn't told so is a fault of the program's own, and goes on.
func faultOf(x any) api.Fault {
	f, ok := x.(api.Fault)
	if !ok {
		panic(x)
	}
	return f
}

// tell tells a fault, unless e is none.
func tell(e api.Errno, part, at int) {
	if e != api.OK {
		panic(api.Fault{E: e, Part: part, At: at})
	}
}

// spot is a row, from 0 on, of which it is told that what it means is wrong.
type spot struct {
	table, row int
}

func (s spot) tell(e api.Errno) {
	tell(e, api.PMean, tableStep*s.table+s.row)
}

// want tells e, unless it holds.
func (s spot) want(holds bool, e api.Errno) {
	if !holds {
		s.tell(e)
	}
}

// loader is an image that is being loaded: its bytes and rows, and, once they are read, what its methods ask for.
type loader struct {
	sizes
	streams api.Streams
	rows    [][][]int
	entry   int
	specs   []api.Type
	locals  [][]api.Type
}

func newLoader(s api.Streams, t api.Tables) *loader {
	return &loader{
		sizes:   sizes{len(t.Rows[api.RType]), len(t.Rows[api.RField]), len(t.Rows[api.RMethod])},
		streams: s,
		rows:    t.Rows,
		entry:   t.Entry,
	}
}

// load is the image. In which order its parts are gone through tells which fault is the first.
func (l *loader) load() api.Image {
	for table, n := range most {
		spot{table, 0}.want(len(l.rows[table]) <= n, api.ErrFull)
	}
	l.loadSpecs()
	l.loadLocals()
	g := api.Image{Types: l.loadTypes()}
	l.loadFaces(g.Types)
	g.Fields = l.loadFields()
	g.Methods = l.loadMethods()
	spot{tables, 0}.want(l.entry <= l.methods, api.ErrToken)
	g.Entry = l.entry - 1
	return g
}

// name is the name at a place of the names.
func (l *loader) name(at int) string {
	s, e := pool.Name(l.streams.Names, at)
	tell(e, api.PNames, at)
	return s
}

// blob is the blob at a place of the blobs.
func (l *loader) blob(at int) []byte {
	b, e := pool.Blob(l.streams.Blobs, at)
	tell(e, api.PBlobs, at)
	return b
}

func (l *loader) loadSpecs() {
	for i, row := range l.rows[api.RSpec] {
		at := spot{api.RSpec, i}
		t, e := sigs.Get(l.blob(row[onlyBlob]))
		at.tell(e)
		at.want(t.Kind != api.TVoid && !t.Ref, api.ErrType)
		at.want(l.knows(t), api.ErrToken)
		l.specs = append(l.specs, t)
	}
}

func (l *loader) loadLocals() {
	for i, row := range l.rows[api.RLocals] {
		at := spot{api.RLocals, i}
		types, e := sigs.GetLocals(l.blob(row[onlyBlob]))
		at.tell(e)
		at.want(all(types, l.knows), api.ErrToken)
		l.locals = append(l.locals, types)
	}
}

func (l *loader) loadTypes() []api.TypeDef {
	var types []api.TypeDef
	for i, row := range l.rows[api.RType] {
		at := spot{api.RType, i}
		d := api.TypeDef{Name: l.name(row[typeName]), Flags: row[typeFlags]}
		at.want(d.Flags <= maxFlags, api.ErrRange)
		d.Extends = l.extends(at, row[typeExtends])
		types = append(types, d)
	}
	return types
}

// extends is the type that a coded index tells.
func (l *loader) extends(at spot, x int) int {
	table, row, e := rows.Coded(x)
	at.tell(e)
	if table == -1 {
		return noType
	}
	at.want(table == api.RType && isRow(row, l.types), api.ErrToken)
	return row - 1
}

// loadFaces puts the faces to the types that have them, in the order of their rows.
func (l *loader) loadFaces(types []api.TypeDef) {
	for i, row := range l.rows[api.RFace] {
		at := spot{api.RFace, i}
		at.want(isRow(row[faceType], l.types) && isRow(row[faceFace], l.types), api.ErrToken)
		d := &types[row[faceType]-1]
		at.want(len(d.Faces) < api.MaxFaces, api.ErrFull)
		d.Faces = append(d.Faces, row[faceFace]-1)
	}
}

// owners are the types that have the rows of a table; a column of the types tells of each its first one.
func (l *loader) owners(table, column int) []int {
	owners := make([]int, len(l.rows[table]))
	spot{table, 0}.want(len(owners) == 0 || l.types > 0, api.ErrToken)
	ahead := 1
	for i, row := range l.rows[api.RType] {
		at := spot{api.RType, i}
		first := row[column]
		at.want(i > 0 || first == 1, api.ErrRange)
		at.want(first >= ahead && first <= len(owners)+1, api.ErrRange)
		for k := first - 1; k < len(owners); k++ {
			owners[k] = i
		}
		ahead = first
	}
	return owners
}

func (l *loader) loadFields() []api.Field {
	var fields []api.Field
	owners := l.owners(api.RField, typeField)
	for i, row := range l.rows[api.RField] {
		at := spot{api.RField, i}
		at.want(row[fieldFlags] <= maxFieldFlags, api.ErrRange)
		name := l.name(row[fieldName])
		t, e := sigs.GetField(l.blob(row[fieldBlob]))
		at.tell(e)
		at.want(l.knows(t), api.ErrToken)
		fields = append(fields, api.Field{Name: name, Owner: owners[i], Type: t, Static: row[fieldFlags] == maxFieldFlags})
	}
	return fields
}

func (l *loader) loadMethods() []api.Method {
	var methods []api.Method
	owners := l.owners(api.RMethod, typeMethod)
	for i, row := range l.rows[api.RMethod] {
		m := l.loadMethod(spot{api.RMethod, i}, row)
		m.Owner = owners[i]
		methods = append(methods, m)
	}
	return methods
}

// loadMethod is the method of a row, but for its owner.
func (l *loader) loadMethod(at spot, row []int) api.Method {
	m := api.Method{Flags: row[methodFlags], Max: row[methodStack]}
	at.want(m.Flags <= maxFlags && m.Max <= api.MaxStack, api.ErrRange)
	m.Name = l.name(row[methodName])
	sig, e := sigs.GetSig(l.blob(row[methodBlob]))
	at.tell(e)
	m.Params, m.Ret = sig.Params, sig.Ret
	at.want(sig.This == sigOf(m).This, api.ErrForm)
	at.want(l.knows(m.Ret) && all(m.Params, l.knows), api.ErrToken)
	m.Locals = l.localsOf(at, row[methodLocals])
	if place := row[methodPlace]; place > 0 {
		m.Code, m.Clauses = l.loadBody(at, place-1)
	}
	return m
}

// localsOf are the locals of a row of them; none of row 0. Methods may share a row, but no memory.
func (l *loader) localsOf(at spot, row int) []api.Type {
	if row == 0 {
		return nil
	}
	at.want(isRow(row, len(l.locals)), api.ErrToken)
	return slices.Clone(l.locals[row-1])
}

// specOf is the type of a row of specs.
func (l *loader) specOf(at spot, row int) api.Type {
	at.want(isRow(row, len(l.specs)), api.ErrToken)
	return l.specs[row-1]
}

// loadBody is the code and the clauses of the body at a place of the code.
func (l *loader) loadBody(at spot, place int) ([]api.Instr, []api.Clause) {
	b, _, e := body.Read(l.streams.Code, place)
	tell(e, api.PCode, place)
	instrs, places, _, e := code.Decode(b.Code)
	at.tell(e)
	for i, x := range instrs {
		if operandOf(x) == api.PType {
			x = api.Instr{Op: x.Op, T: l.specOf(at, int(x.Arg))}
		}
		at.want(l.has(x, len(instrs)), api.ErrToken)
		instrs[i] = x
	}
	var clauses []api.Clause
	for _, r := range b.Clauses {
		clauses = append(clauses, l.loadClause(at, places, r))
	}
	_, e = regions.Check(len(instrs), clauses)
	at.tell(e)
	return instrs, clauses
}

// loadClause is the clause r, of instructions at these places. Of a filter Extra is a place, which Resolve has looked at.
func (l *loader) loadClause(at spot, places []int, r api.Raw) api.Clause {
	c, e := body.Resolve(places, r)
	at.tell(e)
	switch r.Kind {
	case api.CCatch:
		c.T = l.specOf(at, r.Extra)
	case api.CFinally, api.CFault:
		at.want(r.Extra == 0, api.ErrForm)
	}
	return c
}
