package slots

import (
	"fmt"
	"slices"
	"testing"

	"cattlegrid/api"
	"cattlegrid/layout"
)

// The flags with which types of each kind are well.
const (
	faceFlags     = api.FFace | api.FAbstract
	valueFlags    = api.FValue | api.FSealed
	delegateFlags = api.FDelegate | api.FSealed
)

// The flags that methods have in tests.
const (
	virtual  = api.MVirtual
	abstract = api.MVirtual | api.MAbstract
	anew     = api.MVirtual | api.MNew
	static   = api.MStatic
	ctor     = api.MCtor
)

// The types that methods name in tests.
var (
	void   = api.Type{Kind: api.TVoid}
	num    = api.Type{Kind: api.TInt}
	long   = api.Type{Kind: api.TLong}
	object = api.Type{Kind: api.TObject}
)

func objectType(i int) api.Type { return api.Type{Kind: api.TClass, Index: i} }
func valueType(i int) api.Type  { return api.Type{Kind: api.TValue, Index: i} }
func faultType(i int) api.Type  { return api.Type{Kind: api.TFault, Index: i} }

func arrayOf(t api.Type, dims int) api.Type {
	t.Dims = dims
	return t
}

func refTo(t api.Type) api.Type {
	t.Ref = true
	return t
}

// code is some instructions: what they do is none of this layer's matter.
func code() []api.Instr { return []api.Instr{{Op: api.ONop}, {Op: api.ORet}} }

// catches is a clause of that code that catches t.
func catches(t api.Type) api.Clause {
	return api.Clause{Kind: api.CCatch, TryTo: 1, HandFrom: 1, HandTo: 2, Filter: -1, T: t}
}

// finally is a clause of that code that catches nothing.
func finally() api.Clause {
	return api.Clause{Kind: api.CFinally, TryTo: 1, HandFrom: 1, HandTo: 2, Filter: -1}
}

// def is a type of that name, of these flags and with these faces, that extends nothing.
func def(name string, flags int, faces ...int) api.TypeDef {
	return api.TypeDef{Name: name, Flags: flags, Extends: -1, Faces: faces}
}

func sub(name string, base int, faces ...int) api.TypeDef {
	return api.TypeDef{Name: name, Extends: base, Faces: faces}
}

// method is one that answers nothing, and has code, unless it has MAbstract.
func method(name string, owner, flags int, params ...api.Type) api.Method {
	return answers(void, name, owner, flags, params...)
}

func answers(ret api.Type, name string, owner, flags int, params ...api.Type) api.Method {
	m := api.Method{Name: name, Owner: owner, Flags: flags, Params: params, Ret: ret}
	if flags&api.MAbstract == 0 {
		m.Code = code()
	}
	return m
}

// with is an image of these types and methods, with no entry.
func with(types []api.TypeDef, methods ...api.Method) api.Image {
	return api.Image{Types: types, Methods: methods, Entry: -1}
}

func copyOf(g api.Image) api.Image {
	g.Types, g.Fields, g.Methods = slices.Clone(g.Types), slices.Clone(g.Fields), slices.Clone(g.Methods)
	for i := range g.Types {
		g.Types[i].Faces = slices.Clone(g.Types[i].Faces)
	}
	for i, m := range g.Methods {
		m.Params, m.Locals, m.Code, m.Clauses = slices.Clone(m.Params), slices.Clone(m.Locals), slices.Clone(m.Code), slices.Clone(m.Clauses)
		g.Methods[i] = m
	}
	return g
}

func sameImage(g, h api.Image) bool {
	return fmt.Sprint(g) == fmt.Sprint(h)
}

func ofT(t int) api.Spot { return api.Spot{Kind: 0, Index: t} }
func ofM(m int) api.Spot { return api.Spot{Kind: 1, Index: m} }

// wantCheck looks at what Check tells.
func wantCheck(t *testing.T, name string, g api.Image, s api.Spot, e api.Errno) {
	t.Helper()
	if gotS, gotE := Check(g); gotS != s || gotE != e {
		t.Errorf("%s: %v %d, not %v %d", name, gotS, gotE, s, e)
	}
	if e == api.ErrArg {
		wantNothing(t, name, g)
	}
}

// wantNothing looks at the calls that tell nothing where not all fields are well.
func wantNothing(t *testing.T, name string, g api.Image) {
	t.Helper()
	for k := -1; k <= len(g.Types); k++ {
		if l := Table(g, k); l != nil {
			t.Error(name, "table", k, l)
		}
		for m := -1; m <= len(g.Methods); m++ {
			if x := Find(g, k, m); x != -1 {
				t.Error(name, "find", k, m, x)
			}
		}
	}
	for m := -1; m <= len(g.Methods); m++ {
		if x := Slot(g, m); x != -1 {
			t.Error(name, "slot", m, x)
		}
	}
}

func wantTable(t *testing.T, g api.Image, k int, want ...int) {
	t.Helper()
	if l := Table(g, k); !slices.Equal(l, want) {
		t.Error("table", k, l, want)
	}
}

func wantFind(t *testing.T, g api.Image, k, m, want int) {
	t.Helper()
	if x := Find(g, k, m); x != want {
		t.Error("find", k, m, x, want)
	}
}

// wantFieldsWell looks at whether an image is one of which all calls tell something.
func wantFieldsWell(t *testing.T, g api.Image) {
	t.Helper()
	if k, e := layout.Check(g); e != api.OK {
		t.Fatal("fields", k, e)
	}
}
