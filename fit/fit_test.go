package fit

import (
	"testing"

	"cattlegrid/api"
	"cattlegrid/tree"
)

// The types of hang's image.
const (
	faceI    = iota // an interface
	faceJ           // one that has I
	faceK           // one that nobody else has to do with
	top             // a class
	middle          // extends top, has J
	left            // extends middle
	right           // extends middle, has K
	leaf            // extends right
	beside          // extends top
	alone           // a class by itself, abstract
	value           // a value type that has I
	delegate        // a delegate that has K
	nobody          // no type at all
)

func def(name string, flags, base int, faces ...int) api.TypeDef {
	return api.TypeDef{Name: name, Flags: flags, Extends: base, Faces: faces}
}

func hang(t *testing.T) api.Image {
	t.Helper()
	g := api.Image{Entry: -1, Types: []api.TypeDef{
		def("I", api.FFace|api.FAbstract, -1),
		def("J", api.FFace|api.FAbstract, -1, faceI),
		def("K", api.FFace|api.FAbstract, -1),
		def("Top", 0, -1),
		def("Middle", 0, top, faceJ),
		def("Left", 0, middle),
		def("Right", 0, middle, faceK),
		def("Leaf", 0, right),
		def("Beside", 0, top),
		def("Alone", api.FAbstract, -1),
		def("Value", api.FValue|api.FSealed, -1, faceI),
		def("Delegate", api.FDelegate|api.FSealed, -1, faceK),
	}}
	if _, e := tree.Check(g); e != api.OK {
		t.Fatal("types", e)
	}
	return g
}

var (
	num    = api.Type{Kind: api.TInt}
	long   = api.Type{Kind: api.TLong}
	object = api.Type{Kind: api.TObject}
	null   = api.Type{Kind: api.TNull}
	fault  = api.Type{Kind: api.TFault}
)

func objectType(i int) api.Type { return api.Type{Kind: api.TClass, Index: i} }
func valueType(i int) api.Type  { return api.Type{Kind: api.TValue, Index: i} }
func faultType(i int) api.Type  { return api.Type{Kind: api.TFault, Index: i} }

func arrayOf(t api.Type, dims int) api.Type {
	t.Dims = dims
	return t
}

func refTo(t api.Type) api.Type {
	t.Ref = true
	return t
}

func numbered(t api.Type, i int) api.Type {
	t.Index = i
	return t
}

// P14.1: Object, of each kind with Dims 0, above and below, and of addresses.
func TestObject(t *testing.T) {
	for kind := -2; kind <= api.TFunc+2; kind++ {
		isObject := kind == api.TObject || kind == api.TClass || kind == api.TFault || kind == api.TNull
		for dims := -2; dims <= api.MaxDims+2; dims++ {
			for _, i := range []int{-1, 0, 1, 99} {
				k := api.Type{Kind: kind, Index: i, Dims: dims}
				if got := Object(k); got != (isObject || dims > 0) {
					t.Error(k, got)
				}
				if Object(refTo(k)) {
					t.Error("address", k)
				}
			}
		}
	}
}

// merged is what two types merge to, and whether the one fits the other, and the other the one.
type merged struct {
	a, b   api.Type
	ab, ba bool
	m      api.Type
	e      api.Errno
}

// wantMerged looks at Fits and Merge of two types, in both orders.
func wantMerged(t *testing.T, g api.Image, x merged) {
	t.Helper()
	wantFits(t, g, x.a, x.b, x.ab)
	wantFits(t, g, x.b, x.a, x.ba)
	wantMerge(t, g, x.a, x.b, x.m, x.e)
	wantMerge(t, g, x.b, x.a, x.m, x.e)
}

func wantFits(t *testing.T, g api.Image, a, b api.Type, want bool) {
	t.Helper()
	if got := Fits(g, a, b); got != want {
		t.Errorf("fits %v %v: %v", a, b, got)
	}
}

func wantMerge(t *testing.T, g api.Image, a, b, m api.Type, e api.Errno) {
	t.Helper()
	if gotM, gotE := Merge(g, a, b); gotM != m || gotE != e {
		t.Errorf("merge %v %v: %v %d, not %v %d", a, b, gotM, gotE, m, e)
	}
}

// same are two types that are one.
func same(a api.Type) merged { return merged{a, a, true, true, a, api.OK} }

// fits are two types of which the one fits the other.
func fits(a, b api.Type) merged { return merged{a, b, true, false, b, api.OK} }

// apart are two types that fit each other in no order, and merge to a third.
func apart(a, b, m api.Type) merged { return merged{a, b, false, false, m, api.OK} }

// never are two types that don't merge.
func never(a, b api.Type) merged { return merged{a, b, false, false, api.Type{}, api.ErrMerge} }

// all are types of each kind, of hang's image and of none.
func all() []api.Type {
	l := []api.Type{{}, {Kind: api.TVoid}, num, long, object, null, {Kind: api.TFunc, Index: 3}, {Kind: -1}, {Kind: 10}}
	for i := -1; i <= nobody+1; i++ {
		l = append(l, objectType(i), valueType(i), faultType(i))
	}
	for _, k := range l[:len(l):len(l)] {
		l = append(l, arrayOf(k, 1), arrayOf(k, 2), refTo(k), refTo(arrayOf(k, 1)))
	}
	return l
}

// P14.1: a type fits itself and merges with itself, whether of objects or not.
func TestSame(t *testing.T) {
	g := hang(t)
	for _, k := range all() {
		wantMerged(t, g, same(k))
		wantMerged(t, g, same(arrayOf(k, -1)))
	}
}

// P14.1: null fits every object's type, and every object's type fits TObject; no other type does.
func TestNullAndObject(t *testing.T) {
	g := hang(t)
	for _, k := range all() {
		if k != null && Object(k) {
			wantMerged(t, g, fits(null, k))
		} else if k != null {
			wantMerged(t, g, never(null, k))
		}
		if k != object && Object(k) {
			wantMerged(t, g, fits(k, object))
		} else if k != object {
			wantMerged(t, g, never(k, object))
		}
	}
	for dims := 1; dims <= api.MaxDims; dims++ {
		wantMerged(t, g, apart(arrayOf(null, dims), objectType(top), object))
		wantMerged(t, g, apart(arrayOf(null, dims), arrayOf(num, 1), object))
		wantMerged(t, g, apart(arrayOf(object, dims), objectType(top), object))
		wantMerged(t, g, apart(arrayOf(object, dims), arrayOf(num, 1), object))
		wantMerged(t, g, apart(arrayOf(null, dims), arrayOf(object, dims), object))
		wantMerged(t, g, fits(null, arrayOf(null, dims)))
		wantMerged(t, g, fits(arrayOf(object, dims), object))
	}
	// The number of either tells nothing.
	wantFits(t, g, numbered(null, 5), num, false)
	wantFits(t, g, numbered(null, 5), objectType(top), true)
	wantFits(t, g, objectType(top), numbered(object, 5), true)
	// With Dims below 0 null isn't the one that fits all, nor TObject the one that all fit.
	wantMerged(t, g, apart(arrayOf(null, -1), objectType(top), object))
	wantMerged(t, g, apart(arrayOf(object, -1), objectType(top), object))
}

// P14.1: classes, interfaces and delegates.
func TestClasses(t *testing.T) {
	g, c := hang(t), objectType
	for _, x := range []merged{
		fits(c(middle), c(top)), fits(c(left), c(top)), fits(c(leaf), c(top)), fits(c(leaf), c(middle)), fits(c(leaf), c(right)), fits(c(beside), c(top)),
		apart(c(left), c(right), c(middle)), apart(c(left), c(leaf), c(middle)), apart(c(beside), c(leaf), c(top)), apart(c(beside), c(middle), c(top)), apart(c(beside), c(left), c(top)),
		apart(c(alone), c(top), object), apart(c(alone), c(leaf), object),
		fits(c(middle), c(faceJ)), fits(c(middle), c(faceI)), fits(c(leaf), c(faceI)), fits(c(leaf), c(faceJ)), fits(c(right), c(faceK)), fits(c(leaf), c(faceK)), fits(c(faceJ), c(faceI)),
		apart(c(top), c(faceI), object), apart(c(left), c(faceK), object), apart(c(alone), c(faceJ), object), apart(c(faceI), c(faceK), object), apart(c(faceJ), c(faceK), object),
		fits(c(delegate), c(faceK)), apart(c(delegate), c(faceI), object), apart(c(delegate), c(top), object), apart(c(delegate), c(right), object),
		apart(c(-1), c(top), object), apart(c(nobody), c(top), object), apart(c(-1), c(nobody), object), apart(c(nobody), c(faceI), object), apart(c(-1), c(0), object), apart(c(nobody), c(nobody+1), object),
	} {
		wantMerged(t, g, x)
	}
}

// P14.1: faults.
func TestFaults(t *testing.T) {
	g, f := hang(t), faultType
	for i := 1; i <= 7; i++ {
		wantMerged(t, g, fits(f(i), fault))
		wantMerged(t, g, apart(f(i), f(i%7+1), fault))
		wantMerged(t, g, apart(f(i), objectType(top), object))
		wantMerged(t, g, apart(f(i), objectType(i), object))
		wantMerged(t, g, apart(f(i), arrayOf(fault, 1), object))
		wantMerged(t, g, apart(arrayOf(f(i), 1), fault, object))
		wantMerged(t, g, apart(arrayOf(f(i), 1), arrayOf(fault, 1), object))
		wantMerged(t, g, never(refTo(f(i)), fault))
		wantMerged(t, g, never(refTo(f(i)), refTo(fault)))
	}
	wantMerged(t, g, apart(fault, objectType(0), object))
	wantMerged(t, g, apart(fault, objectType(faceI), object))
	wantMerged(t, g, fits(f(-1), fault))
	wantMerged(t, g, fits(f(8), fault))
	wantMerged(t, g, apart(arrayOf(f(1), -1), fault, object))
	wantMerged(t, g, apart(f(1), arrayOf(fault, -1), object))
}

// P14.1: arrays fit themselves and TObject alone.
func TestArrays(t *testing.T) {
	g, c := hang(t), objectType
	for _, k := range []api.Type{num, long, object, c(top), c(middle), c(faceI), valueType(value), fault} {
		wantMerged(t, g, apart(arrayOf(k, 1), arrayOf(k, 2), object))
		wantMerged(t, g, apart(arrayOf(k, 3), arrayOf(k, 2), object))
		wantMerged(t, g, apart(arrayOf(k, 1), c(top), object))
		wantMerged(t, g, apart(arrayOf(k, 1), c(faceI), object))
		wantMerged(t, g, apart(arrayOf(k, 1), faultType(1), object))
	}
	wantMerged(t, g, apart(arrayOf(c(middle), 1), arrayOf(c(top), 1), object))
	wantMerged(t, g, apart(arrayOf(c(left), 1), arrayOf(c(right), 1), object))
	wantMerged(t, g, apart(arrayOf(c(left), 2), arrayOf(c(right), 2), object))
	wantMerged(t, g, apart(arrayOf(c(middle), 1), c(top), object))
	wantMerged(t, g, apart(c(middle), arrayOf(c(top), 1), object))
	wantMerged(t, g, apart(arrayOf(c(top), 1), c(middle), object))
	wantMerged(t, g, apart(arrayOf(c(top), 1), arrayOf(object, 1), object))
	wantMerged(t, g, apart(arrayOf(num, 1), arrayOf(long, 1), object))
	wantMerged(t, g, never(arrayOf(num, 1), num))
	wantMerged(t, g, never(refTo(arrayOf(num, 1)), arrayOf(num, 1)))
	wantMerged(t, g, never(refTo(arrayOf(num, 1)), object))
	// Of classes with Dims below 0 the one isn't below the other.
	wantMerged(t, g, apart(arrayOf(c(middle), -1), c(top), object))
	wantMerged(t, g, apart(c(middle), arrayOf(c(top), -1), object))
	wantMerged(t, g, apart(arrayOf(c(left), -1), c(right), object))
}

// P14.1: ErrMerge of what isn't the same, and not both objects' types.
func TestNeverMerged(t *testing.T) {
	g := hang(t)
	others := []api.Type{{}, {Kind: api.TVoid}, num, long, valueType(value), valueType(0), {Kind: api.TFunc}, {Kind: api.TFunc, Index: 1}, refTo(num), refTo(long), refTo(object), refTo(null), refTo(objectType(top)), refTo(objectType(middle)), refTo(valueType(value)), refTo(fault), refTo(faultType(1)), refTo(arrayOf(num, 1)), arrayOf(num, -1), {Kind: 10}, {Kind: -1}}
	for _, a := range others {
		for _, b := range all() {
			if a != b {
				wantMerged(t, g, never(a, b))
			}
		}
		for _, b := range others {
			if a != b {
				wantMerged(t, g, never(a, b))
			}
		}
	}
}

func wantCast(t *testing.T, g api.Image, a, b api.Type, want bool) {
	t.Helper()
	if got := Cast(g, a, b); got != want {
		t.Errorf("cast %v %v: %v", a, b, got)
	}
}

// P14.2: what may be made, or stand in a box, is an object; nothing that stands in a box is anything else.
func TestCastBoxes(t *testing.T) {
	g := hang(t)
	boxed := []api.Type{num, long, valueType(value), {}, {Kind: api.TVoid}, {Kind: api.TFunc}, refTo(num), refTo(objectType(top))}
	for _, a := range boxed {
		wantCast(t, g, a, object, true)
		for _, b := range all() {
			if b != object {
				wantCast(t, g, a, b, false)
			}
		}
		for _, b := range []api.Type{numbered(object, 1), arrayOf(object, 1), arrayOf(object, -1), refTo(object)} {
			wantCast(t, g, a, b, false)
		}
	}
}

// P14.2: of all other objects what they fit.
func TestCastObjects(t *testing.T) {
	g := hang(t)
	for _, a := range all() {
		wantCast(t, g, a, object, true)
		wantCast(t, g, a, a, Object(a) || a == object)
		if !Object(a) {
			continue
		}
		for _, b := range all() {
			wantCast(t, g, a, b, Fits(g, a, b))
		}
		wantCast(t, g, a, numbered(object, 1), true)
		wantCast(t, g, a, refTo(object), false)
	}
	c := objectType
	for _, x := range []struct {
		a, b api.Type
		want bool
	}{{c(leaf), c(top), true}, {c(top), c(leaf), false}, {c(leaf), c(faceI), true}, {c(leaf), c(alone), false}, {c(alone), c(alone), true}, {c(alone), c(top), false}, {c(faceI), c(faceI), true}, {c(faceJ), c(faceI), true}, {c(faceI), c(faceJ), false}, {c(delegate), c(faceK), true}, {arrayOf(num, 1), arrayOf(num, 1), true}, {arrayOf(num, 1), arrayOf(num, 2), false}, {arrayOf(num, 1), arrayOf(object, 1), false}, {arrayOf(c(leaf), 1), arrayOf(c(top), 1), false}, {faultType(3), fault, true}, {fault, faultType(3), false}, {faultType(3), faultType(3), true}, {faultType(3), faultType(4), false}, {faultType(3), c(top), false}, {null, c(top), true}} {
		wantCast(t, g, x.a, x.b, x.want)
	}
}
