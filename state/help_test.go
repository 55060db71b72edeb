package state

import (
	"fmt"
	"math/rand"
	"slices"
	"testing"

	"cattlegrid/api"
	"cattlegrid/tree"
)

// The types of hang's image.
const (
	face     = iota // an interface
	top             // a class that has it
	left            // extends top
	right           // extends top
	alone           // an abstract class
	pair            // a value type
	delegate        // a delegate
	nobody          // no type at all
)

func def(name string, flags, base int, faces ...int) api.TypeDef {
	return api.TypeDef{Name: name, Flags: flags, Extends: base, Faces: faces}
}

// wellTypes are those types, as an image.
func wellTypes(t *testing.T, l ...api.TypeDef) api.Image {
	t.Helper()
	g := api.Image{Entry: -1, Types: l}
	if k, e := tree.Check(g); e != api.OK {
		t.Fatal("types", k, e, g)
	}
	return g
}

func hang(t *testing.T) api.Image {
	t.Helper()
	return wellTypes(t,
		def("I", api.FFace|api.FAbstract, -1),
		def("Top", 0, -1, face),
		def("Left", 0, top),
		def("Right", 0, top),
		def("Alone", api.FAbstract, -1),
		def("Pair", api.FValue|api.FSealed, -1),
		def("Delegate", api.FDelegate|api.FSealed, -1))
}

var (
	num    = api.Type{Kind: api.TInt}
	long   = api.Type{Kind: api.TLong}
	object = api.Type{Kind: api.TObject}
	null   = api.Type{Kind: api.TNull}
	fault  = api.Type{Kind: api.TFault}
)

func objectType(i int) api.Type { return api.Type{Kind: api.TClass, Index: i} }
func valueType(i int) api.Type  { return api.Type{Kind: api.TValue, Index: i} }
func faultType(i int) api.Type  { return api.Type{Kind: api.TFault, Index: i} }

func arrayOf(t api.Type) api.Type {
	t.Dims++
	return t
}

func refTo(t api.Type) api.Type {
	t.Ref = true
	return t
}

// list is one of those types.
func list(l ...api.Type) []api.Type { return l }

// differing are n types that all differ.
func differing(n int) []api.Type {
	var l []api.Type
	for i := range n {
		l = append(l, objectType(i+1))
	}
	return l
}

func wantFits(t *testing.T, g api.Image, a, b []api.Type, want bool) {
	t.Helper()
	if got := Fits(g, a, b); got != want {
		t.Errorf("fits %v %v: %v", a, b, got)
	}
}

// wantList looks at a list that a call answers, and at its error.
func wantList(t *testing.T, told string, l, want []api.Type, e, wantE api.Errno) {
	t.Helper()
	if !slices.Equal(l, want) || e != wantE {
		t.Errorf("%s: %v %d, not %v %d", told, l, e, want, wantE)
	}
}

func wantMerge(t *testing.T, g api.Image, a, b, want []api.Type, wantE api.Errno) {
	t.Helper()
	l, e := Merge(g, a, b)
	wantList(t, fmt.Sprint("merge ", a, b), l, want, e, wantE)
}

func wantPop(t *testing.T, l []api.Type, n int, left, top []api.Type, wantE api.Errno) {
	t.Helper()
	gotLeft, gotTop, e := Pop(l, n)
	wantList(t, fmt.Sprint("pop, left ", l, n), gotLeft, left, e, wantE)
	wantList(t, fmt.Sprint("pop, on top ", l, n), gotTop, top, e, wantE)
}

func wantPush(t *testing.T, l []api.Type, most int, pushed, want []api.Type, wantE api.Errno) {
	t.Helper()
	got, e := Push(l, most, pushed...)
	wantList(t, fmt.Sprint("push ", l, most, pushed), got, want, e, wantE)
}

func wantThis(t *testing.T, g api.Image, m api.Method, want api.Type, wantIs bool) {
	t.Helper()
	if this, is := This(g, m); this != want || is != wantIs {
		t.Errorf("this %v: %v %v, not %v %v", m, this, is, want, wantIs)
	}
}

func wantArgs(t *testing.T, g api.Image, m api.Method, want ...api.Type) {
	t.Helper()
	if l := Args(g, m); !slices.Equal(l, want) {
		t.Errorf("args %v: %v, not %v", m, l, want)
	}
}

// typeBy is a type by chance, in most cases one that may stand on a stack.
func typeBy(r *rand.Rand, types int) api.Type {
	l := []api.Type{num, num, long, object, null, null, fault, faultType(1 + r.Intn(7)), valueType(r.Intn(types)), {Kind: api.TFunc, Index: r.Intn(4)}}
	for range 8 {
		l = append(l, objectType(r.Intn(types)))
	}
	k := l[r.Intn(len(l))]
	switch r.Intn(8) {
	case 0:
		return arrayOf(k)
	case 1:
		return refTo(k)
	}
	return k
}

// listBy is a list by chance, of at most that many types.
func listBy(r *rand.Rand, types, most int) []api.Type {
	var l []api.Type
	for range r.Intn(most + 1) {
		l = append(l, typeBy(r, types))
	}
	return l
}

// likeBy is a list that is much like another one: types at some places are others, and at times there is one more or one less.
func likeBy(r *rand.Rand, l []api.Type, types int) []api.Type {
	l = slices.Clone(l)
	for i := range l {
		if r.Intn(3) == 0 {
			l[i] = typeBy(r, types)
		}
	}
	switch {
	case r.Intn(8) == 0:
		return append(l, typeBy(r, types))
	case len(l) > 0 && r.Intn(8) == 0:
		return l[1:]
	}
	return l
}

// randomTypes are types that hang together well: classes that extend ones ahead, and types of other kinds between them.
func randomTypes(t *testing.T, r *rand.Rand) api.Image {
	t.Helper()
	l := []api.TypeDef{def("T0", api.FFace|api.FAbstract, -1)}
	classes := []int{-1}
	for i := 1; i < 2+r.Intn(8); i++ {
		d := def(fmt.Sprint("T", i), 0, -1)
		switch r.Intn(7) {
		case 0:
			d.Flags = api.FValue | api.FSealed
		case 1:
			d.Flags, d.Faces = api.FFace|api.FAbstract, []int{0}
		case 2:
			d.Flags = api.FDelegate | api.FSealed
		default:
			d.Extends = classes[r.Intn(len(classes))]
			classes = append(classes, i)
			if r.Intn(3) == 0 {
				d.Faces = []int{0}
			}
		}
		l = append(l, d)
	}
	return wellTypes(t, l...)
}
