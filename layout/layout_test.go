package layout

import (
	"fmt"
	"math"
	"math/rand"
	"slices"
	"testing"

	"cattlegrid/api"
	"cattlegrid/sigs"
	"cattlegrid/tree"
)

// The flags with which types of each kind are well.
const (
	faceFlags     = api.FFace | api.FAbstract
	valueFlags    = api.FValue | api.FSealed
	delegateFlags = api.FDelegate | api.FSealed
)

// The types that fields have in tests.
var (
	void   = api.Type{Kind: api.TVoid}
	num    = api.Type{Kind: api.TInt}
	long   = api.Type{Kind: api.TLong}
	object = api.Type{Kind: api.TObject}
)

func objectType(i int) api.Type { return api.Type{Kind: api.TClass, Index: i} }
func valueType(i int) api.Type  { return api.Type{Kind: api.TValue, Index: i} }
func faultType(i int) api.Type  { return api.Type{Kind: api.TFault, Index: i} }

func arrayOf(t api.Type, dims int) api.Type {
	t.Dims = dims
	return t
}

func refTo(t api.Type) api.Type {
	t.Ref = true
	return t
}

// def is a type of that name, of these flags, that extends nothing.
func def(name string, flags int) api.TypeDef {
	return api.TypeDef{Name: name, Flags: flags, Extends: -1}
}

func sub(name string, base int) api.TypeDef {
	return api.TypeDef{Name: name, Extends: base}
}

func field(name string, owner int, t api.Type) api.Field {
	return api.Field{Name: name, Owner: owner, Type: t}
}

func static(name string, owner int, t api.Type) api.Field {
	return api.Field{Name: name, Owner: owner, Type: t, Static: true}
}

// fields are fields of these types, each with a name of its own.
func fields(owner int, types ...api.Type) []api.Field {
	var l []api.Field
	for i, t := range types {
		l = append(l, field(fmt.Sprint("f", i), owner, t))
	}
	return l
}

// statics are fields as of fields, but static.
func statics(owner int, types ...api.Type) []api.Field {
	var l []api.Field
	for i, t := range types {
		l = append(l, static(fmt.Sprint("s", i), owner, t))
	}
	return l
}

func only(types ...api.TypeDef) api.Image {
	return api.Image{Types: types, Entry: -1}
}

// with is an image of these types and of the fields of several lists.
func with(types []api.TypeDef, lists ...[]api.Field) api.Image {
	g := only(types...)
	g.Fields = slices.Concat(lists...)
	return g
}

func copyOf(g api.Image) api.Image {
	g.Types, g.Fields, g.Methods = slices.Clone(g.Types), slices.Clone(g.Fields), slices.Clone(g.Methods)
	for i := range g.Types {
		g.Types[i].Faces = slices.Clone(g.Types[i].Faces)
	}
	return g
}

func sameImage(g, h api.Image) bool {
	return fmt.Sprint(g) == fmt.Sprint(h)
}

// many is that type, that many times.
func many(n int, t api.Type) []api.Type {
	return slices.Repeat([]api.Type{t}, n)
}

// The numbers of good's types.
const (
	face = iota
	empty
	pair
	mixed
	nested
	base
	middle
	leaf
	bare
	delegate
	onlyStatic
	goodTypes
)

// good is an image with types of all kinds: values within values, some without fields, and classes that extend each other.
func good() api.Image {
	return with([]api.TypeDef{
		def("face", faceFlags), def("empty", valueFlags), def("pair", valueFlags), def("mixed", valueFlags), def("nested", valueFlags),
		def("base", 0), sub("middle", base), sub("leaf", middle), def("bare", 0), def("delegate", delegateFlags), def("onlyStatic", valueFlags),
	},
		statics(face, valueType(mixed), num),
		fields(pair, num, long),
		[]api.Field{field("a", mixed, valueType(pair)), static("b", mixed, valueType(nested)), field("c", mixed, object), field("d", mixed, valueType(empty))},
		[]api.Field{field("a", nested, arrayOf(valueType(nested), 1)), field("b", nested, valueType(mixed)), field("c", nested, valueType(onlyStatic)), field("d", nested, faultType(3))},
		[]api.Field{field("a", base, objectType(leaf)), static("b", base, object), field("c", base, valueType(nested)), field("d", base, objectType(face))},
		[]api.Field{field("a", leaf, valueType(empty)), field("b", leaf, valueType(pair)), static("c", leaf, arrayOf(num, 3)), field("d", leaf, objectType(delegate))},
		[]api.Field{static("a", onlyStatic, valueType(empty))},
	)
}

// The cells of good's types.
func pairCells() []api.Type  { return []api.Type{num, long} }
func mixedCells() []api.Type { return []api.Type{num, long, object, num} }
func nestedCells() []api.Type {
	return []api.Type{arrayOf(valueType(nested), 1), num, long, object, num, num, faultType(3)}
}
func baseCells() []api.Type {
	return slices.Concat([]api.Type{objectType(leaf)}, nestedCells(), []api.Type{objectType(face)})
}
func leafCells() []api.Type {
	return append(baseCells(), num, num, long, objectType(delegate))
}
func staticCells() []api.Type {
	return slices.Concat(mixedCells(), []api.Type{num}, nestedCells(), []api.Type{object, arrayOf(num, 3), num})
}

func TestGoodIsWell(t *testing.T) {
	if k, e := Check(good()); k != 0 || e != api.OK {
		t.Fatal(k, e)
	}
}

// P12.1: what types an image may name.
func TestUsed(t *testing.T) {
	g := good()
	for _, c := range []struct {
		t    api.Type
		want bool
	}{
		{api.Type{}, false}, {void, true}, {num, true}, {long, true}, {object, true},
		{api.Type{Kind: api.TNull}, false}, {api.Type{Kind: api.TFunc}, false}, {api.Type{Kind: -1}, false}, {api.Type{Kind: 10}, false},
		{arrayOf(void, 1), false}, {refTo(void), false},
		{api.Type{Kind: api.TInt, Index: 1}, false}, {api.Type{Kind: api.TLong, Index: -1}, false}, {api.Type{Kind: api.TObject, Index: base}, false}, {api.Type{Kind: api.TVoid, Index: 1}, false},
		{faultType(0), true}, {faultType(7), true}, {faultType(8), false}, {faultType(-1), false},
		{objectType(base), true}, {objectType(leaf), true}, {objectType(face), true}, {objectType(delegate), true}, {objectType(pair), false}, {objectType(onlyStatic), false},
		{objectType(-1), false}, {objectType(goodTypes), false}, {objectType(31), false}, {objectType(32), false},
		{valueType(pair), true}, {valueType(empty), true}, {valueType(onlyStatic), true}, {valueType(base), false}, {valueType(face), false}, {valueType(delegate), false},
		{valueType(-1), false}, {valueType(goodTypes), false}, {valueType(31), false}, {valueType(32), false},
	} {
		if got := Used(g, c.t); got != c.want {
			t.Error(c.t, got)
		}
		if c.t.Kind == api.TVoid {
			continue
		}
		// An array or an address of a type may be named where the type may.
		for _, x := range []api.Type{refTo(c.t), arrayOf(c.t, 1), arrayOf(c.t, 3), refTo(arrayOf(c.t, 2))} {
			if got := Used(g, x); got != c.want {
				t.Error(x, got)
			}
		}
		for _, x := range []api.Type{arrayOf(c.t, 4), arrayOf(c.t, -1)} {
			if Used(g, x) {
				t.Error(x)
			}
		}
	}
}

// P12.1: the last type of all is one, whatever stands there.
func TestUsedOfLastType(t *testing.T) {
	for flags, isValue := range map[int]bool{0: false, faceFlags: false, delegateFlags: false, valueFlags: true} {
		g := only(def("A", 0), def("B", flags))
		if Used(g, objectType(1)) == isValue || Used(g, valueType(1)) != isValue {
			t.Error(flags)
		}
		if Used(g, objectType(2)) || Used(g, valueType(2)) {
			t.Error(flags, "behind the last one")
		}
	}
}

// P12.1: an image without types has those that need none.
func TestUsedWithoutTypes(t *testing.T) {
	g := only()
	if !Used(g, num) || !Used(g, void) || !Used(g, faultType(7)) || Used(g, objectType(0)) || Used(g, valueType(0)) {
		t.Error("without types")
	}
}

// P12.1: where types aren't well, and in what isn't formed, nothing is used well.
func TestUsedOfWrongImages(t *testing.T) {
	notWell := good()
	notWell.Types[bare].Name = "base"
	unformed := good()
	unformed.Entry = 0
	for _, g := range []api.Image{notWell, unformed} {
		for _, x := range []api.Type{void, num, objectType(base), valueType(pair), arrayOf(num, 1)} {
			if Used(g, x) {
				t.Error(x)
			}
		}
	}
	// Fields and sizes that aren't well are none of its matter.
	g := with([]api.TypeDef{def("V", valueFlags)}, fields(0, many(9, num)...))
	h := with([]api.TypeDef{def("V", valueFlags)}, fields(0, objectType(0)))
	if !Used(g, valueType(0)) || !Used(h, valueType(0)) {
		t.Error("of types that are well")
	}
}

// wantCheck looks at what Check tells.
func wantCheck(t *testing.T, name string, g api.Image, k int, e api.Errno) {
	t.Helper()
	if gotK, gotE := Check(g); gotK != k || gotE != e {
		t.Errorf("%s: %d %v, not %d %v", name, gotK, gotE, k, e)
	}
	if e != api.OK {
		wantNothing(t, name, g)
	}
}

// wantNothing looks at the calls that tell nothing where Check isn't OK.
func wantNothing(t *testing.T, name string, g api.Image) {
	t.Helper()
	for _, x := range []api.Type{num, void, refTo(num), arrayOf(long, 1), faultType(1), valueType(0), objectType(0), valueType(1), objectType(1)} {
		if l, n := Cells(g, x), Words(g, x); l != nil || n != 0 {
			t.Error(name, "cells of", x, l, n)
		}
	}
	for k := -1; k <= len(g.Types); k++ {
		if l := Object(g, k); l != nil {
			t.Error(name, "object of", k, l)
		}
	}
	for f := -1; f <= len(g.Fields); f++ {
		if at := Place(g, f); at != -1 {
			t.Error(name, "place of", f, at)
		}
	}
	if l := Statics(g); l != nil {
		t.Error(name, "statics", l)
	}
}

// P12.1: types that aren't well are told as ErrArg and 0, whatever else is wrong.
func TestCheckArg(t *testing.T) {
	wantCheck(t, "a name twice", only(def("A", 0), def("A", 0)), 0, api.ErrArg)
	wantCheck(t, "not formed", only(api.TypeDef{}), 0, api.ErrArg)
	wantCheck(t, "entry", api.Image{Types: []api.TypeDef{def("A", 0)}}, 0, api.ErrArg)
	wantCheck(t, "a field's type, too", with([]api.TypeDef{def("B", 0), def("A", 0), def("A", 0)}, fields(1, num, valueType(1))), 0, api.ErrArg)
	wantCheck(t, "a size, too", with([]api.TypeDef{def("B", 0), def("A", 0), def("A", 0)}, fields(1, many(33, num)...)), 0, api.ErrArg)
	wantCheck(t, "a field in a field", with([]api.TypeDef{def("B", 0), def("V", valueFlags)}, fields(1, valueType(1))), 0, api.ErrArg)
	// An image that names types behind the last one isn't formed.
	wantCheck(t, "a type behind the last one", with([]api.TypeDef{def("B", 0)}, fields(0, objectType(1))), 0, api.ErrArg)
	wantCheck(t, "a value type behind the last one", with([]api.TypeDef{def("B", 0)}, fields(0, valueType(1))), 0, api.ErrArg)
	wantCheck(t, "void", with([]api.TypeDef{def("B", 0)}, fields(0, void)), 0, api.ErrArg)
	wantCheck(t, "an address", with([]api.TypeDef{def("B", 0)}, fields(0, refTo(num))), 0, api.ErrArg)
}

// P12.1: the first field whose type isn't used well, wherever it stands.
func TestCheckFields(t *testing.T) {
	wrong := []api.Type{objectType(pair), objectType(onlyStatic), valueType(base), valueType(face), valueType(delegate)}
	for f := range good().Fields {
		for _, x := range wrong {
			for _, x := range []api.Type{x, arrayOf(x, 1), arrayOf(x, 3)} {
				g := good()
				g.Fields[f].Type = x
				wantCheck(t, fmt.Sprint(f, x), g, f, api.ErrType)
			}
		}
	}
}

// P12.1: of two fields that aren't well the first is told.
func TestCheckTwoFields(t *testing.T) {
	n := len(good().Fields)
	for f := range n {
		for later := f + 1; later < n; later++ {
			g := good()
			g.Fields[f].Type, g.Fields[later].Type = valueType(base), objectType(pair)
			wantCheck(t, fmt.Sprint(f, later), g, f, api.ErrType)
		}
	}
}

// P12.1: a field is told ahead of types that are too large.
func TestCheckFieldAndSize(t *testing.T) {
	types := []api.TypeDef{def("V", valueFlags), def("A", 0), def("B", 0)}
	g := with(types, fields(0, many(9, num)...), fields(1, many(33, num)...), fields(2, num, objectType(0)))
	wantCheck(t, "field and types", g, len(g.Fields)-1, api.ErrType)
	g.Fields[len(g.Fields)-1].Type = objectType(1)
	wantCheck(t, "types", g, 0, api.ErrSize)
}

// P12.1: how many cells a value type may have by its own fields.
func TestCheckOwnSize(t *testing.T) {
	for n := range 30 {
		for _, x := range []api.Type{num, long, object, objectType(0), arrayOf(valueType(1), 1), faultType(0)} {
			g := with([]api.TypeDef{def("A", 0), def("V", valueFlags)}, statics(0, many(10, num)...), fields(1, many(n, x)...))
			g.Fields = append(g.Fields, statics(1, many(10, valueType(1))...)...)
			if n <= api.MaxWords {
				wantCheck(t, fmt.Sprint(n, x), g, 0, api.OK)
			} else {
				wantCheck(t, fmt.Sprint(n, x), g, 1, api.ErrSize)
			}
		}
	}
}

// P12.1: a value type is as large as all that it holds, by one step or by several.
func TestCheckHeldSize(t *testing.T) {
	types := []api.TypeDef{def("V", valueFlags), def("W", valueFlags), def("X", valueFlags)}
	for a := range 5 {
		for b := range 5 {
			for c := range 9 {
				// X is of c cells, W holds b of it and one word, V a of W.
				g := with(types, fields(0, many(a, valueType(1))...), fields(1, append(many(b, valueType(2)), num)...), fields(2, many(c, long)...))
				w := b*max(c, 1) + 1
				switch v := a * w; {
				case v > 8:
					wantCheck(t, fmt.Sprint(a, b, c), g, 0, api.ErrSize)
				case w > 8:
					wantCheck(t, fmt.Sprint(a, b, c), g, 1, api.ErrSize)
				default:
					wantCheck(t, fmt.Sprint(a, b, c), g, 0, api.OK)
				}
			}
		}
	}
}

// P12.1: how many cells an object may have, by fields of its own, of what it extends, and by values.
func TestCheckObjectSize(t *testing.T) {
	types := []api.TypeDef{def("A", 0), sub("B", 0), sub("C", 1), def("V", valueFlags)}
	for a := 0; a <= 36; a += 3 {
		for b := 0; a+b <= 36; b++ {
			for c := 0; a+b+c <= 36; c += 4 {
				for held := 0; held <= 8; held += 4 {
					g := with(types, fields(0, many(a, num)...), fields(1, many(b, long)...), append(fields(2, many(c, object)...), field("v", 2, valueType(3))), fields(3, many(held, num)...))
					g.Fields = append(g.Fields, statics(3, num)...)
					n, want := a+b+c+max(held, 1), -1
					switch {
					case a > 32:
						want = 0
					case a+b > 32:
						want = 1
					case n > 32:
						want = 2
					}
					if want < 0 {
						wantCheck(t, fmt.Sprint(a, b, c, held), g, 0, api.OK)
					} else if k, e := Check(g); k != want || e != api.ErrSize {
						t.Error(a, b, c, held, k, e)
					}
				}
			}
		}
	}
}

// P12.1: the bound of an object is 32 cells, by each way to come to them.
func TestCheckObjectBound(t *testing.T) {
	v8 := fields(0, many(8, num)...)
	types := []api.TypeDef{def("V", valueFlags), def("A", 0), sub("B", 1)}
	for _, c := range []struct {
		name string
		g    api.Image
		k    int
		e    api.Errno
	}{
		{"32 of its own", with(types, fields(1, many(32, num)...)), 0, api.OK},
		{"33 of its own", with(types, fields(1, many(33, num)...)), 1, api.ErrSize},
		{"32 with one", with(types, fields(1, many(31, num)...), fields(2, num)), 0, api.OK},
		{"32 and one", with(types, fields(1, many(32, num)...), fields(2, num)), 2, api.ErrSize},
		{"4 of 8", with(types, v8, fields(1, many(4, valueType(0))...)), 0, api.OK},
		{"4 of 8 and one", with(types, v8, fields(1, append(many(4, valueType(0)), num)...)), 1, api.ErrSize},
		{"one and 4 of 8", with(types, v8, fields(1, append([]api.Type{num}, many(4, valueType(0))...)...)), 1, api.ErrSize},
		{"2 of 8, and 2", with(types, v8, fields(1, many(2, valueType(0))...), fields(2, many(2, valueType(0))...)), 0, api.OK},
		{"2 of 8, and 3", with(types, v8, fields(1, many(2, valueType(0))...), fields(2, many(3, valueType(0))...)), 2, api.ErrSize},
		{"32 of an empty one", with(types, fields(1, many(32, valueType(0))...)), 0, api.OK},
		{"33 of an empty one", with(types, fields(1, many(33, valueType(0))...)), 1, api.ErrSize},
		{"static ones don't count", with(types, v8, append(fields(1, many(32, num)...), statics(1, many(20, valueType(0))...)...)), 0, api.OK},
		{"static ones of a value", with(types, append(slices.Clone(v8), statics(0, many(20, num)...)...), fields(1, many(4, valueType(0))...)), 0, api.OK},
		{"static ones of an interface", with([]api.TypeDef{def("I", faceFlags)}, statics(0, many(60, num)...)), 0, api.OK},
		{"arrays are one", with(types, v8, fields(1, many(32, arrayOf(valueType(0), 1))...)), 0, api.OK},
	} {
		wantCheck(t, c.name, c.g, c.k, c.e)
	}
}

// P12.1: of two types that are too large the first is told, a class that holds too large a value ahead of that value.
func TestCheckTwoTypes(t *testing.T) {
	large, larger := fields(0, many(9, num)...), fields(1, many(33, num)...)
	wantCheck(t, "value, class", with([]api.TypeDef{def("V", valueFlags), def("A", 0)}, large, larger), 0, api.ErrSize)
	wantCheck(t, "class alone", with([]api.TypeDef{def("V", valueFlags), def("A", 0)}, larger), 1, api.ErrSize)
	wantCheck(t, "values", with([]api.TypeDef{def("V", valueFlags), def("W", valueFlags)}, large, larger), 0, api.ErrSize)
	wantCheck(t, "classes", with([]api.TypeDef{def("A", 0), def("B", 0)}, fields(0, many(31, num)...), larger), 1, api.ErrSize)
	types := []api.TypeDef{def("A", 0), def("V", valueFlags)}
	wantCheck(t, "a class that has room", with(types, fields(0, valueType(1)), fields(1, many(9, num)...)), 1, api.ErrSize)
	wantCheck(t, "a class that has room for 32", with(types, fields(0, valueType(1)), fields(1, many(32, num)...)), 1, api.ErrSize)
	wantCheck(t, "a class that has none", with(types, fields(0, valueType(1)), fields(1, many(33, num)...)), 0, api.ErrSize)
	wantCheck(t, "a class that has none for two", with(types, fields(0, many(3, valueType(1))...), fields(1, many(11, num)...)), 0, api.ErrSize)
}

// R1: values that hold twice as much as the next one, 32 deep, are refused at once.
func TestCheckEnds(t *testing.T) {
	var types []api.TypeDef
	var l [][]api.Field
	for k := range api.MaxTypes {
		types = append(types, def(fmt.Sprint("T", k), valueFlags))
		if k+1 < api.MaxTypes {
			l = append(l, fields(k, valueType(k+1), valueType(k+1)))
		}
	}
	g := with(types, l...)
	wantCheck(t, "values", g, 0, api.ErrSize)
	g.Types[0] = def("A", 0)
	wantCheck(t, "a class", g, 0, api.ErrSize)
	h := with(append([]api.TypeDef{def("T0", valueFlags)}, types[1:]...))
	for k := range api.MaxTypes - 1 {
		h.Fields = append(h.Fields, fields(k+1, valueType(k), valueType(k))...)
	}
	wantCheck(t, "the other way round", h, 4, api.ErrSize)
}

// P12.2: the cells of types, and how many.
func TestCells(t *testing.T) {
	g := good()
	itself := []api.Type{
		num, long, object, faultType(0), faultType(7), objectType(base), objectType(face), objectType(delegate),
		refTo(num), arrayOf(num, 1), refTo(arrayOf(num, 3)), refTo(valueType(pair)), refTo(valueType(empty)), arrayOf(valueType(mixed), 1), arrayOf(valueType(empty), 3), refTo(arrayOf(valueType(nested), 2)), refTo(objectType(leaf)),
	}
	for _, x := range itself {
		wantCells(t, g, x, x)
	}
	wantCells(t, g, void)
	wantCells(t, g, valueType(empty), num)
	wantCells(t, g, valueType(onlyStatic), num)
	wantCells(t, g, valueType(pair), pairCells()...)
	wantCells(t, g, valueType(mixed), mixedCells()...)
	wantCells(t, g, valueType(nested), nestedCells()...)
	for _, x := range []api.Type{{}, arrayOf(void, 1), refTo(void), {Kind: api.TNull}, {Kind: api.TFunc}, objectType(pair), valueType(base), valueType(face), valueType(delegate), valueType(-1), valueType(goodTypes), objectType(goodTypes), objectType(-1), faultType(8), refTo(objectType(pair)), arrayOf(valueType(base), 1), arrayOf(num, 4), {Kind: api.TInt, Index: 1}} {
		wantCells(t, g, x)
	}
}

func wantCells(t *testing.T, g api.Image, x api.Type, want ...api.Type) {
	t.Helper()
	if l, n := Cells(g, x), Words(g, x); !slices.Equal(l, want) || n != len(want) {
		t.Error(x, l, n, want)
	}
}

// P12.2: where a value type stands first, in between and last, its cells stand in its stead.
func TestCellsOfValuesWithin(t *testing.T) {
	types := []api.TypeDef{def("V", valueFlags), def("W", valueFlags), def("E", valueFlags)}
	held := fields(1, long, object)
	v, e := valueType(1), valueType(2)
	for _, c := range []struct{ has, want []api.Type }{
		{[]api.Type{v}, []api.Type{long, object}},
		{[]api.Type{v, num, num}, []api.Type{long, object, num, num}},
		{[]api.Type{num, v, num}, []api.Type{num, long, object, num}},
		{[]api.Type{num, num, v}, []api.Type{num, num, long, object}},
		{[]api.Type{v, v}, []api.Type{long, object, long, object}},
		{[]api.Type{e}, []api.Type{num}},
		{[]api.Type{e, e}, []api.Type{num, num}},
		{[]api.Type{e, v, e}, []api.Type{num, long, object, num}},
		{[]api.Type{arrayOf(v, 1), v}, []api.Type{arrayOf(v, 1), long, object}},
	} {
		g := with(types, fields(0, c.has...), held)
		wantCells(t, g, valueType(0), c.want...)
		// A static field in between, of a type of several words, changes nothing.
		g.Fields = slices.Insert(g.Fields, 1, static("s", 0, v))
		wantCells(t, g, valueType(0), c.want...)
	}
}

// P12.2: the cells of objects, the farthest class's first.
func TestObject(t *testing.T) {
	g := good()
	for k, want := range map[int][]api.Type{base: baseCells(), middle: baseCells(), leaf: leafCells(), bare: nil, face: nil, empty: nil, pair: nil, mixed: nil, delegate: nil, onlyStatic: nil, -1: nil, goodTypes: nil} {
		if l := Object(g, k); !slices.Equal(l, want) {
			t.Error(k, l)
		}
	}
	h := with([]api.TypeDef{sub("A", 2), sub("B", 0), def("C", 0)}, fields(0, num, num), fields(1, long), fields(2, object))
	for k, want := range [][]api.Type{{object, num, num}, {object, num, num, long}, {object}} {
		if l := Object(h, k); !slices.Equal(l, want) {
			t.Error(k, l)
		}
	}
}

// P12.2: the cells of all static fields, whoever's they are.
func TestStatics(t *testing.T) {
	if l := Statics(good()); !slices.Equal(l, staticCells()) {
		t.Error(l)
	}
	if l := Statics(only()); len(l) != 0 {
		t.Error(l)
	}
	if l := Statics(with([]api.TypeDef{def("A", 0)}, fields(0, num, long))); len(l) != 0 {
		t.Error(l)
	}
	// There may be far more of them than cells of an object.
	g := with([]api.TypeDef{def("V", valueFlags), def("A", 0)}, fields(0, many(8, long)...), statics(1, many(56, valueType(0))...))
	if l := Statics(g); !slices.Equal(l, many(8*56, long)) {
		t.Error(len(l))
	}
	if at := Place(g, 63); at != 8*55 {
		t.Error(at)
	}
}

// P12.3: where each field begins.
func TestPlace(t *testing.T) {
	want := []int{
		0, 4, // face: static
		0, 1, // pair
		0, 5, 2, 3, // mixed, its second static
		0, 1, 5, 6, // nested
		1, 12, 2, 9, // base, its second static
		10, 11, 13, 13, // leaf, its third static
		14, // onlyStatic
	}
	g := good()
	if len(want) != len(g.Fields) {
		t.Fatal(len(g.Fields))
	}
	for f, at := range want {
		if got := Place(g, f); got != at {
			t.Error(f, got, at)
		}
	}
	for _, f := range []int{-1, len(g.Fields), len(g.Fields) + 1, math.MinInt, math.MaxInt} {
		if got := Place(g, f); got != -1 {
			t.Error(f, got)
		}
	}
	if got := Place(only(), 0); got != -1 {
		t.Error(got)
	}
}

// The chapter's example.
func TestExample(t *testing.T) {
	g := with([]api.TypeDef{sub("A", 1), def("B", 0)}, fields(0, num), fields(1, long))
	if Place(g, 1) != 1 || Place(g, 0) != 2 {
		t.Error(Place(g, 1), Place(g, 0))
	}
}

// flat is a list of types with each value type told by what it has, one after the other, as long as there are any; at most so many are told.
func flat(g api.Image, l []api.Type, most int) []api.Type {
	for i := 0; i < len(l) && i < most; {
		x := l[i]
		if x.Kind != api.TValue || x.Dims > 0 || x.Ref {
			i++
			continue
		}
		var has []api.Type
		for _, f := range g.Fields {
			if f.Owner == x.Index && !f.Static {
				has = append(has, f.Type)
			}
		}
		if has == nil {
			has = []api.Type{num}
		}
		l = slices.Concat(l[:i], has, l[i+1:])
	}
	return l
}

// modelUsed tells by the chapter's words whether a type is used well where all types are well.
func modelUsed(g api.Image, t api.Type) bool {
	if !sigs.Plain(t) {
		return false
	}
	if t.Kind != api.TClass && t.Kind != api.TValue {
		return true
	}
	return t.Index >= 0 && t.Index < len(g.Types) && (g.Types[t.Index].Flags&(api.FValue|api.FFace) == api.FValue) == (t.Kind == api.TValue)
}

// modelUp is a class and all that it extends, the farthest first.
func modelUp(g api.Image, t int) []int {
	var l []int
	for ; t >= 0; t = g.Types[t].Extends {
		l = append([]int{t}, l...)
	}
	return l
}

// modelHas are the types of the fields of an object of a class, the farthest class's first.
func modelHas(g api.Image, t int) []api.Type {
	var l []api.Type
	for _, u := range modelUp(g, t) {
		for _, f := range g.Fields {
			if f.Owner == u && !f.Static {
				l = append(l, f.Type)
			}
		}
	}
	return l
}

// modelCheck is Check of an image whose types are well.
func modelCheck(g api.Image) (int, api.Errno) {
	for f, x := range g.Fields {
		if !modelUsed(g, x.Type) {
			return f, api.ErrType
		}
	}
	for k, d := range g.Types {
		if d.Flags == valueFlags && len(flat(g, []api.Type{valueType(k)}, 9)) > 8 {
			return k, api.ErrSize
		}
		if d.Flags == 0 && len(flat(g, modelHas(g, k), 33)) > 32 {
			return k, api.ErrSize
		}
	}
	return 0, api.OK
}

// randomImage is an image of few types, most of which are well, with fields of all of them.
func randomImage(r *rand.Rand) api.Image {
	g := only()
	n := 1 + r.Intn(6)
	kinds := []int{0, 0, 0, valueFlags, valueFlags, valueFlags, faceFlags, delegateFlags}
	for k := range n {
		g.Types = append(g.Types, def(fmt.Sprint("T", k), kinds[r.Intn(len(kinds))]))
	}
	// Most of what leads from type to type leads to one of a lower rank, so that few images come back to themselves.
	rank := r.Perm(n)
	leads := func(k, x int) bool { return rank[x] < rank[k] || r.Intn(60) == 0 }
	for k := range n {
		if x := r.Intn(n); g.Types[k].Flags == 0 && g.Types[x].Flags == 0 && leads(k, x) {
			g.Types[k].Extends = x
		}
	}
	for k, d := range g.Types {
		if d.Flags == delegateFlags {
			continue
		}
		for i := range r.Intn(2 + r.Intn(18)) {
			x := field(fmt.Sprint("f", i), k, randomType(r, g))
			x.Static = d.Flags == faceFlags || r.Intn(4) == 0
			if x.Type.Kind == api.TValue && !leads(k, x.Type.Index) {
				x.Type = num
			}
			g.Fields = append(g.Fields, x)
		}
	}
	return g
}

// randomType is the type of a field, seldom one that isn't used well.
func randomType(r *rand.Rand, g api.Image) api.Type {
	if r.Intn(3) > 0 {
		k := r.Intn(len(g.Types))
		x := objectType(k)
		if g.Types[k].Flags == valueFlags != (r.Intn(100) == 0) {
			x = valueType(k)
		}
		if r.Intn(5) == 0 {
			x.Dims = r.Intn(4)
		}
		return x
	}
	return []api.Type{num, long, object, faultType(r.Intn(8)), arrayOf(num, 1+r.Intn(3))}[r.Intn(5)]
}

// P12.1 to P12.4: images by a fixed seed, held against the model.
func TestModel(t *testing.T) {
	r := rand.New(rand.NewSource(12))
	told := map[api.Errno]int{}
	for range 6000 {
		g := randomImage(r)
		if _, e := tree.Check(g); e != api.OK {
			told[api.ErrArg]++
			wantCheck(t, "types", g, 0, api.ErrArg)
			continue
		}
		k, e := modelCheck(g)
		told[e]++
		wantCheck(t, fmt.Sprint(g), g, k, e)
		if e == api.OK {
			wantModel(t, g)
			wantApart(t, g)
		}
		if t.Failed() {
			t.Fatal(g)
		}
	}
	for _, e := range []api.Errno{api.OK, api.ErrArg, api.ErrType, api.ErrSize} {
		if told[e] < 100 {
			t.Error("told seldom:", e, told[e])
		}
	}
}

// wantModel holds all calls of an image that is well against the model.
func wantModel(t *testing.T, g api.Image) {
	t.Helper()
	for k := -1; k <= len(g.Types); k++ {
		for _, x := range []api.Type{valueType(k), objectType(k), arrayOf(valueType(k), 1), refTo(valueType(k)), refTo(objectType(k))} {
			var want []api.Type
			if used := modelUsed(g, x); used != Used(g, x) {
				t.Error("used", x)
			} else if used {
				want = flat(g, []api.Type{x}, 99)
			}
			wantCells(t, g, x, want...)
		}
		var want []api.Type
		if k >= 0 && k < len(g.Types) && g.Types[k].Flags == 0 {
			want = flat(g, modelHas(g, k), 99)
		}
		if l := Object(g, k); !slices.Equal(l, want) {
			t.Error("object", k, l)
		}
	}
	var all []api.Type
	for _, x := range g.Fields {
		if x.Static {
			all = append(all, x.Type)
		}
	}
	if l := Statics(g); !slices.Equal(l, flat(g, all, 9999)) {
		t.Error("statics", l)
	}
}

// wantApart looks at the places of all fields of each object, of each value, and of the static ones: no two share a word, and together they are all of it, each of them its own cells.
func wantApart(t *testing.T, g api.Image) {
	t.Helper()
	for k, d := range g.Types {
		switch d.Flags {
		case 0:
			up := modelUp(g, k)
			head := api.Type{Kind: -1}
			l := append([]api.Type{head}, Object(g, k)...)
			wantTiled(t, g, l, 1, func(x api.Field) bool { return !x.Static && slices.Contains(up, x.Owner) })
		case valueFlags:
			mine := func(x api.Field) bool { return !x.Static && x.Owner == k }
			if !slices.ContainsFunc(g.Fields, mine) {
				wantCells(t, g, valueType(k), num)
				continue
			}
			wantTiled(t, g, Cells(g, valueType(k)), 0, mine)
		}
	}
	wantTiled(t, g, Statics(g), 0, func(x api.Field) bool { return x.Static })
}

// wantTiled looks at whether the fields that are meant are all of l from a word on, each once.
func wantTiled(t *testing.T, g api.Image, l []api.Type, from int, meant func(x api.Field) bool) {
	t.Helper()
	taken := make([]int, len(l))
	for i := range from {
		taken[i]++
	}
	for f, x := range g.Fields {
		if !meant(x) {
			continue
		}
		at, cells := Place(g, f), Cells(g, x.Type)
		if at < from || at+len(cells) > len(l) || !slices.Equal(l[at:at+len(cells)], cells) || len(cells) == 0 {
			t.Error("field", f, at, cells, l)
			return
		}
		for i := range cells {
			taken[at+i]++
		}
	}
	for i, n := range taken {
		if n != 1 {
			t.Error("word", i, "is taken", n)
		}
	}
}

// P12.4: of good's objects, values and static fields.
func TestFieldsApart(t *testing.T) {
	wantApart(t, good())
}

// wildImages are images that aren't formed, with numbers that are far from any.
func wildImages() []api.Image {
	wild := []int{math.MinInt, -2, -1, 0, 1, 2, 31, 32, 1 << 31, math.MaxInt}
	var l []api.Image
	for _, a := range wild {
		for _, b := range wild {
			g := only(api.TypeDef{Name: "A", Extends: a, Faces: []int{b}}, api.TypeDef{Flags: b, Extends: b}, def("V", valueFlags))
			g.Fields = []api.Field{
				{Owner: a, Type: api.Type{Kind: api.TValue, Index: b}}, {Name: "x", Owner: b, Type: api.Type{Kind: a, Index: b, Dims: a}},
				{Owner: 2, Type: valueType(2)}, {Owner: 1, Static: true, Type: valueType(a)}, {Owner: 0, Type: refTo(valueType(0))},
			}
			g.Methods = []api.Method{{Owner: a, Params: []api.Type{{Kind: b}}}}
			g.Entry = a
			l = append(l, g)
		}
	}
	return append(l, api.Image{}, api.Image{Fields: make([]api.Field, 3)}, api.Image{Types: make([]api.TypeDef, 40), Fields: make([]api.Field, 70), Methods: make([]api.Method, 70)})
}

// R1: at images that aren't formed every call ends, and tells nothing.
func TestWild(t *testing.T) {
	for _, g := range wildImages() {
		before := copyOf(g)
		wantCheck(t, "wild", g, 0, api.ErrArg)
		for _, k := range []int{math.MinInt, -1, 0, 1, 2, 3, math.MaxInt} {
			for _, x := range []api.Type{valueType(k), objectType(k), {Kind: k, Index: k, Dims: k}, arrayOf(num, k)} {
				if Used(g, x) {
					t.Error(x)
				}
			}
		}
		if !sameImage(g, before) {
			t.Error("changed", g)
		}
	}
}

// R1: at numbers and types that are far from any every call ends, and tells nothing.
func TestWildNumbers(t *testing.T) {
	g := good()
	for _, k := range []int{math.MinInt, -1 << 32, -1, goodTypes, 1 << 32, 1<<32 + base, math.MaxInt} {
		for _, x := range []api.Type{valueType(k), objectType(k), {Kind: k}, arrayOf(num, k), {Kind: k, Index: k, Dims: k, Ref: true}} {
			if Used(g, x) || Cells(g, x) != nil || Words(g, x) != 0 {
				t.Error(x)
			}
		}
		if Object(g, k) != nil {
			t.Error(k)
		}
	}
}

// R4: what was handed in stays as it was, and what is handed back is the caller's own.
func TestFreshMemory(t *testing.T) {
	g := good()
	g.Types = append(make([]api.TypeDef, 0, 40), g.Types...)
	g.Fields = append(make([]api.Field, 0, 40), g.Fields...)
	spareTypes, spareFields := g.Types[:40], g.Fields[:40]
	spareTypes[39], spareFields[39] = def("spare", 7), static("spare", 7, num)
	before := copyOf(g)
	calls := []func() []api.Type{
		func() []api.Type { return Cells(g, num) },
		func() []api.Type { return Cells(g, arrayOf(num, 1)) },
		func() []api.Type { return Cells(g, valueType(empty)) },
		func() []api.Type { return Cells(g, valueType(pair)) },
		func() []api.Type { return Cells(g, valueType(nested)) },
		func() []api.Type { return Object(g, base) },
		func() []api.Type { return Object(g, middle) },
		func() []api.Type { return Object(g, leaf) },
		func() []api.Type { return Statics(g) },
	}
	for i, call := range calls {
		first := slices.Clone(call())
		l := call()
		l = l[:cap(l)]
		for k := range l {
			l[k] = api.Type{Kind: -7}
		}
		if again := call(); !slices.Equal(first, again) || len(first) == 0 {
			t.Error(i, first, again)
		}
	}
	if !sameImage(g, before) || spareTypes[39].Name != "spare" || spareFields[39].Name != "spare" {
		t.Error("changed")
	}
	wantApart(t, g)
}
