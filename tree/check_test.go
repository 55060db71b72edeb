package tree

import (
	"cmp"
	"fmt"
	"math"
	"slices"
	"testing"

	"cattlegrid/api"
	"cattlegrid/image"
)

// wantCheck wants that of Check, and g to stay as it was.
func wantCheck(t *testing.T, told string, g api.Image, at int, e api.Errno) {
	t.Helper()
	was := copyOf(g)
	if i, x := Check(g); i != at || x != e {
		t.Errorf("%s: %d %v, not %d %v: %+v", told, i, x, at, e, g)
	}
	if !sameImage(g, was) {
		t.Errorf("%s: the image was changed", told)
	}
}

// renumbered is g with type i as type to[i].
func renumbered(g api.Image, to []int) api.Image {
	g = copyOf(g)
	types := make([]api.TypeDef, len(to))
	for i, d := range g.Types {
		if d.Extends >= 0 {
			d.Extends = to[d.Extends]
		}
		for k, f := range d.Faces {
			d.Faces[k] = to[f]
		}
		types[to[i]] = d
	}
	g.Types = types
	number := func(x *api.Type) {
		if x.Kind == api.TClass || x.Kind == api.TValue {
			x.Index = to[x.Index]
		}
	}
	for i := range g.Fields {
		g.Fields[i].Owner = to[g.Fields[i].Owner]
		number(&g.Fields[i].Type)
	}
	for i := range g.Methods {
		m := &g.Methods[i]
		m.Owner = to[m.Owner]
		number(&m.Ret)
		for k := range m.Params {
			number(&m.Params[k])
		}
	}
	slices.SortStableFunc(g.Fields, func(a, b api.Field) int { return cmp.Compare(a.Owner, b.Owner) })
	slices.SortStableFunc(g.Methods, func(a, b api.Method) int { return cmp.Compare(a.Owner, b.Owner) })
	return g
}

// orders are all orders of n numbers.
func orders(n int) [][]int {
	if n == 0 {
		return [][]int{nil}
	}
	var l [][]int
	for _, o := range orders(n - 1) {
		for i := range n {
			l = append(l, slices.Insert(slices.Clone(o), i, n-1))
		}
	}
	return l
}

// broken is an image, and of each of its types what is wrong with it.
type broken struct {
	told   string
	g      api.Image
	errors []api.Errno
}

// wrong are the errors of an image's types: those that aren't told are OK.
func wrong(l ...api.Errno) []api.Errno { return l }

// with is g with these fields.
func with(g api.Image, l ...api.Field) api.Image {
	g.Fields = l
	return g
}

// withMethods is g with these methods.
func withMethods(g api.Image, l ...api.Method) api.Image {
	g.Methods = l
	return g
}

// padded is g with so many types ahead and behind that are well, and where its own are then.
func padded(g api.Image, ahead, behind int) (api.Image, []int) {
	g = copyOf(g)
	n := len(g.Types)
	var to []int
	for i := range n {
		to = append(to, ahead+i)
	}
	for i := range ahead + behind {
		at := i
		if i >= ahead {
			at = n + i
		}
		to = append(to, at)
		g.Types = append(g.Types, def(fmt.Sprint("More", i), 0))
	}
	return renumbered(g, to), to
}

// wantBroken wants of each that the first type that isn't well is told: in every order of its types, and with types that are well ahead of them and behind.
func wantBroken(t *testing.T, l []broken) {
	t.Helper()
	for _, x := range l {
		for _, to := range orders(len(x.g.Types)) {
			wantFirst(t, x, renumbered(x.g, to), to)
		}
		for _, k := range [][2]int{{1, 0}, {0, 1}, {3, 2}, {32 - len(x.g.Types), 0}} {
			g, to := padded(x.g, k[0], k[1])
			wantFirst(t, x, g, to)
		}
	}
}

// wantFirst wants of g, which has the types of x where to tells, what is wrong with the first of them.
func wantFirst(t *testing.T, x broken, g api.Image, to []int) {
	t.Helper()
	at, want := math.MaxInt, api.OK
	for i, e := range x.errors {
		if e != api.OK && to[i] < at {
			at, want = to[i], e
		}
	}
	if want == api.OK {
		at = 0
	}
	wantCheck(t, fmt.Sprint(x.told, " ", to), g, at, want)
	wantAsModel(t, g)
}

// P11.1: what an image without any types, one whose types are all well, and the chapter's example are told as.
func TestCheckWell(t *testing.T) {
	wantCheck(t, "nothing", only(), 0, api.OK)
	wantCheck(t, "good", good(), 0, api.OK)
	wantCheck(t, "the example", only(sub("A", 1), sub("B", 0)), 0, api.ErrTree)
}

// P11.1: an image that isn't formed is told so, whatever else is wrong with it.
func TestCheckNotFormed(t *testing.T) {
	for _, x := range []struct {
		told   string
		change func(g *api.Image)
	}{
		{"Entry behind", func(g *api.Image) { g.Entry = len(g.Methods) }},
		{"Entry -2", func(g *api.Image) { g.Entry = -2 }},
		{"no name", func(g *api.Image) { g.Types[2].Name = "" }},
		{"a wild name", func(g *api.Image) { g.Fields[3].Name = "a b" }},
		{"flags", func(g *api.Image) { g.Types[10].Flags = 32 }},
		{"extends -2", func(g *api.Image) { g.Types[4].Extends = -2 }},
		{"extends behind", func(g *api.Image) { g.Types[4].Extends = 11 }},
		{"a face -1", func(g *api.Image) { g.Types[4].Faces = []int{-1} }},
		{"a face behind", func(g *api.Image) { g.Types[4].Faces = []int{0, 11} }},
		{"five faces", func(g *api.Image) { g.Types[4].Faces = []int{0, 1, 2, 3, 0} }},
		{"owners that fall", func(g *api.Image) { g.Fields[0].Owner = 10 }},
		{"an owner behind", func(g *api.Image) { g.Methods[10].Owner = 11 }},
		{"a type behind", func(g *api.Image) { g.Fields[14].Type = valueOf(11) }},
		{"a field that is an address", func(g *api.Image) { g.Fields[14].Type = refTo(num) }},
		{"too many types", func(g *api.Image) { g.Types = append(g.Types, slices.Repeat([]api.TypeDef{def("T", 0)}, 22)...) }},
	} {
		g := good()
		x.change(&g)
		if image.Formed(g) {
			t.Fatalf("%s: formed", x.told)
		}
		wantCheck(t, x.told, g, 0, api.ErrArg)
		g.Types[0].Flags, g.Types[5].Name, g.Types[9].Extends = 0, "A", 9
		wantCheck(t, x.told+", and not well", g, 0, api.ErrArg)
	}
	wantCheck(t, "a zero image begins with a method that isn't there", api.Image{}, 0, api.ErrArg)
}

// P11.1, point 1: the flags of each kind, all of them, and what extends nothing.
func TestCheckFlags(t *testing.T) {
	for flags := range 32 {
		want := api.ErrTree
		switch flags {
		case 0, 4, 8, 12: // classes
			want = api.OK
		case 6, 9, 24: // an interface, a value type, a delegate
			want = api.OK
		}
		wantBroken(t, []broken{
			{fmt.Sprint("flags ", flags), only(def("A", flags)), wrong(want)},
			{fmt.Sprint("flags ", flags, " of one of two"), only(def("A", flags), def("B", faceFlags)), wrong(want)},
		})
		if flags >= 16 || flags&3 != 0 {
			extends := api.TypeDef{Name: "A", Flags: flags, Extends: 1}
			wantBroken(t, []broken{{fmt.Sprint("flags ", flags, " that extends"), only(extends, def("B", 0)), wrong(api.ErrTree)}})
		}
	}
}

// P11.1, point 1: each broken by itself.
func TestCheckKinds(t *testing.T) {
	var l []broken
	for _, x := range []struct {
		told  string
		flags int
	}{
		{"an interface without FAbstract", api.FFace},
		{"an interface with FValue", faceFlags | api.FValue},
		{"an interface with FSealed", faceFlags | api.FSealed},
		{"an interface with FDelegate", faceFlags | api.FDelegate},
		{"a value type without FSealed", api.FValue},
		{"a value type with FAbstract", valueFlags | api.FAbstract},
		{"a value type with FDelegate", valueFlags | api.FDelegate},
		{"a delegate without FSealed", api.FDelegate},
		{"a delegate with FAbstract", delegateFlags | api.FAbstract},
	} {
		l = append(l, broken{x.told, only(def("A", x.flags), def("B", 0), def("C", faceFlags)), wrong(api.ErrTree)})
	}
	for _, flags := range []int{faceFlags, valueFlags, delegateFlags} {
		one := api.TypeDef{Name: "A", Flags: flags, Extends: 1}
		self := api.TypeDef{Name: "A", Flags: flags, Extends: 0}
		l = append(l,
			broken{"one that extends a class", only(one, def("B", 0)), wrong(api.ErrTree)},
			broken{"one that extends one of its kind", only(one, def("B", flags)), wrong(api.ErrTree)},
			broken{"one that extends itself", only(self, def("B", 0)), wrong(api.ErrTree)},
		)
	}
	wantBroken(t, l)
}

// P11.1, point 2: what classes extend.
func TestCheckExtends(t *testing.T) {
	abstract := api.TypeDef{Name: "A", Flags: api.FAbstract, Extends: 1}
	e := api.ErrTree
	wantBroken(t, []broken{
		{"a class", only(sub("A", 1), def("B", 0)), nil},
		{"an abstract one", only(sub("A", 1), def("B", api.FAbstract)), nil},
		{"an abstract one that extends", only(abstract, def("B", 0)), nil},
		{"one that extends, too", only(sub("A", 1), sub("B", 2), def("C", 0)), nil},
		{"a sealed one that extends", only(api.TypeDef{Name: "A", Flags: api.FSealed, Extends: 1}, def("B", 0)), nil},
		{"a sealed one", only(sub("A", 1), def("B", api.FSealed)), wrong(e)},
		{"a sealed one that is abstract", only(sub("A", 1), def("B", api.FSealed|api.FAbstract)), wrong(e)},
		{"an interface", only(sub("A", 1), def("B", faceFlags)), wrong(e)},
		{"a value type", only(sub("A", 1), def("B", valueFlags)), wrong(e)},
		{"a value type that isn't sealed", only(sub("A", 1), def("B", api.FValue)), wrong(e, e)},
		{"a delegate", only(sub("A", 1), def("B", delegateFlags)), wrong(e)},
		{"a delegate that isn't sealed", only(sub("A", 1), def("B", api.FDelegate)), wrong(e, e)},
		{"one that isn't well", only(sub("A", 1), sub("B", 2), def("C", api.FSealed)), wrong(api.OK, e)},
		{"one of a name that is told twice", only(sub("A", 1), def("B", 0), def("B", 0)), wrong(api.OK, api.ErrName, api.ErrName)},
		{"itself", only(sub("A", 0), def("B", 0)), wrong(e)},
		{"one that comes back", only(sub("A", 1), sub("B", 0), def("C", 0)), wrong(e, e)},
		{"one that comes back by several", only(sub("A", 1), sub("B", 2), sub("C", 3), sub("D", 0)), wrong(e, e, e, e)},
		{"one that comes back to itself", only(sub("A", 1), sub("B", 1), def("C", 0)), wrong(e, e)},
		{"one that comes back to itself by several", only(sub("A", 1), sub("B", 2), sub("C", 3), sub("D", 2)), wrong(e, e, e, e)},
		{"two that come back, and one that doesn't", only(sub("A", 1), sub("B", 0), sub("C", 3), def("D", 0)), wrong(e, e)},
	})
}

// P11.1, point 3: faces.
func TestCheckFaces(t *testing.T) {
	e := api.ErrTree
	i, j, k := def("I", faceFlags), def("J", faceFlags, 0), def("K", faceFlags, 1, 0)
	wantBroken(t, []broken{
		{"of an interface", only(i, j, k), nil},
		{"of a class", only(i, def("A", 0, 0), def("B", api.FAbstract|api.FSealed, 0)), nil},
		{"of a value type and a delegate", only(i, def("V", valueFlags, 0), def("D", delegateFlags, 0)), nil},
		{"four", only(i, j, k, def("L", faceFlags, 2, 1, 0), def("A", 0, 3, 1, 0, 2)), nil},
		{"what is extended has it, too", only(i, def("A", 0, 0), sub("B", 1, 0)), nil},
		{"two ways to one", only(i, j, def("K", faceFlags, 0), def("A", 0, 2, 1)), nil},
		{"a class", only(def("A", 0, 1), def("B", 0)), wrong(e)},
		{"a value type", only(def("A", 0, 1), def("B", valueFlags)), wrong(e)},
		{"a delegate", only(def("A", 0, 1), def("B", delegateFlags)), wrong(e)},
		{"an abstract class", only(def("A", 0, 1), def("B", api.FAbstract)), wrong(e)},
		{"a class behind an interface", only(def("A", 0, 2, 1), def("B", 0), i), wrong(e)},
		{"a class of an interface", only(def("I", faceFlags, 1), def("B", 0)), wrong(e)},
		{"a class of a value type", only(def("V", valueFlags, 1), def("B", 0)), wrong(e)},
		{"a class of a delegate", only(def("D", delegateFlags, 1), def("B", 0)), wrong(e)},
		{"itself, a class", only(def("A", 0, 0)), wrong(e)},
		{"twice", only(i, def("A", 0, 0, 0)), wrong(api.OK, e)},
		{"twice, not side by side", only(i, j, def("A", 0, 0, 1, 0)), wrong(api.OK, api.OK, e)},
		{"four times", only(i, def("J", faceFlags, 0, 0, 0, 0)), wrong(api.OK, e)},
		{"itself", only(def("I", faceFlags, 0)), wrong(e)},
		{"itself behind another one", only(def("I", faceFlags, 1, 0), def("J", faceFlags)), wrong(e)},
		{"back by another one", only(def("I", faceFlags, 1), def("J", faceFlags, 0)), wrong(e, e)},
		{"back by two", only(def("I", faceFlags, 1), def("J", faceFlags, 2), def("K", faceFlags, 0)), wrong(e, e, e)},
		{"back by a class", only(def("I", faceFlags, 1), def("J", faceFlags, 2), def("A", 0, 0)), wrong(e, e)},
		{"back by the last of several", only(def("I", faceFlags, 3, 2, 1), def("J", faceFlags, 0), def("K", faceFlags), def("L", faceFlags)), wrong(e, e)},
		{"one that comes to itself, of a class", only(def("A", 0, 1), def("I", faceFlags, 1)), wrong(api.OK, e)},
		{"one that comes to itself, of an interface", only(def("I", faceFlags, 1), def("J", faceFlags, 2), def("K", faceFlags, 1)), wrong(api.OK, e, e)},
	})
}

// P11.1, point 4: names of types and of fields.
func TestCheckNames(t *testing.T) {
	a, b, i, v := def("A", 0), def("B", 0), def("I", faceFlags), def("V", valueFlags)
	e := api.ErrName
	wantBroken(t, []broken{
		{"names that differ a little", only(a, def("a", 0), def("AA", 0), def("A!", 0)), nil},
		{"two types of one name", only(a, b, def("A", 0)), wrong(e, api.OK, e)},
		{"two of other kinds", only(a, b, def("A", valueFlags), def("B", faceFlags)), wrong(e, e, e, e)},
		{"a class and what it extends", only(sub("A", 1), def("A", 0)), wrong(e, e)},
		{"three types of one name", only(a, a, a), wrong(e, e, e)},
		{"fields of one", with(only(a, b), field("f", 0, num), field("g", 0, num), field("A", 0, num)), nil},
		{"fields of two", with(only(a, b), field("f", 0, num), field("f", 1, num)), nil},
		{"fields of one and what it extends", with(only(sub("A", 1), b), field("f", 0, num), field("f", 1, num)), nil},
		{"two fields of one name", with(only(a, b), field("f", 0, num), field("f", 0, num)), wrong(e)},
		{"two fields of one name, not side by side", with(only(a, b), field("f", 0, num), field("g", 0, num), field("f", 0, long)), wrong(e)},
		{"two fields of one name, one static", with(only(a, b), field("f", 0, num), static("f", 0, object)), wrong(e)},
		{"two fields of an interface", with(only(i, b), static("f", 0, num), static("f", 0, num)), wrong(e)},
		{"two fields of a value type", with(only(v, b), static("f", 0, num), field("f", 0, num)), wrong(e)},
		{"two fields of the last one", with(only(a, b), field("f", 0, num), field("f", 1, num), field("f", 1, num)), wrong(api.OK, e)},
	})
}

// P11.1, point 4: methods of one name.
func TestCheckMethods(t *testing.T) {
	a, b := def("A", 0), def("B", 0)
	e := api.ErrName
	same := method("m", 0, 0, num, num, refTo(num), arrayOf(classOf(1), 2))
	one := func(change func(m *api.Method)) []api.Method {
		m := same
		m.Params = slices.Clone(m.Params)
		change(&m)
		return []api.Method{same, m}
	}
	var l []broken
	for _, x := range []struct {
		told    string
		methods []api.Method
		e       api.Errno
	}{
		{"the same", one(func(m *api.Method) {}), e},
		{"of two types", one(func(m *api.Method) { m.Owner = 1 }), api.OK},
		{"of other names", one(func(m *api.Method) { m.Name = "n" }), api.OK},
		{"of other answers", one(func(m *api.Method) { m.Ret = long }), api.OK},
		{"one that answers nothing", one(func(m *api.Method) { m.Ret = void }), api.OK},
		{"one that answers an array", one(func(m *api.Method) { m.Ret.Dims = 1 }), api.OK},
		{"static", one(func(m *api.Method) { m.Flags = api.MStatic }), api.OK},
		{"of other flags", one(func(m *api.Method) { m.Flags = 30 }), e},
		{"of other flags, static", one(func(m *api.Method) { m.Flags = 31 }), api.OK},
		{"fewer parameters", one(func(m *api.Method) { m.Params = m.Params[:2] }), api.OK},
		{"more parameters", one(func(m *api.Method) { m.Params = append(m.Params, num) }), api.OK},
		{"no parameters", one(func(m *api.Method) { m.Params = nil }), api.OK},
		{"other parameters, at first", one(func(m *api.Method) { m.Params[0] = long }), api.OK},
		{"other parameters, at last", one(func(m *api.Method) { m.Params[2].Dims = 1 }), api.OK},
		{"other parameters, no address", one(func(m *api.Method) { m.Params[1].Ref = false }), api.OK},
		{"other parameters, of another type", one(func(m *api.Method) { m.Params[2].Index = 0 }), api.OK},
		{"other order", one(func(m *api.Method) { m.Params[0], m.Params[1] = m.Params[1], m.Params[0] }), api.OK},
		{"other locals", one(func(m *api.Method) { m.Locals, m.Max = []api.Type{num}, 3 }), e},
		{"other code", one(func(m *api.Method) { m.Code = []api.Instr{{Op: api.ORet}} }), e},
		{"without parameters", []api.Method{method("m", 0, 1, void), {Name: "m", Flags: 1, Ret: void, Params: []api.Type{}}}, e},
		{"not side by side", []api.Method{same, method("m", 0, 0, num), same}, e},
		{"of the last one", []api.Method{method("m", 0, 0, num), method("n", 0, 0, num), method("n", 0, api.MVirtual, num)}, e},
	} {
		errors := wrong(x.e)
		l = append(l, broken{x.told, withMethods(only(a, b), x.methods...), errors})
		l = append(l, broken{x.told + ", of an interface", withMethods(only(def("I", faceFlags), b), x.methods...), errors})
	}
	fieldToo := withMethods(only(a, b), method("f", 0, 0, num))
	l = append(l, broken{"a method and a field of one name", with(fieldToo, field("f", 0, num)), nil})
	wantBroken(t, l)
}

// P11.1, point 5: what types hold.
func TestCheckSizes(t *testing.T) {
	i, d, c := def("I", faceFlags), def("D", delegateFlags), def("C", 0)
	v, w, x := def("V", valueFlags), def("W", valueFlags), def("X", valueFlags)
	e := api.ErrSize
	wantBroken(t, []broken{
		{"an interface's static fields", with(only(i, c), static("f", 0, num), static("g", 0, object)), nil},
		{"an interface's field", with(only(i, c), field("f", 0, num)), wrong(e)},
		{"an interface's field behind a static one", with(only(i, c), static("f", 0, num), field("g", 0, num), static("h", 0, num)), wrong(e)},
		{"a delegate's field", with(only(d, c), field("f", 0, num)), wrong(e)},
		{"a delegate's static field", with(only(d, c), static("f", 0, num)), wrong(e)},
		{"a class's fields", with(only(c, d, i), field("f", 0, num), static("g", 0, num), field("h", 0, classOf(0))), nil},
		{"a value type of itself", with(only(v, c), field("f", 0, valueOf(0))), wrong(e)},
		{"a value type of itself, at last", with(only(v, c), field("f", 0, num), field("g", 0, classOf(0)), field("h", 0, valueOf(0))), wrong(e)},
		{"by an array", with(only(v, c), field("f", 0, arrayOf(valueOf(0), 1)), field("g", 0, arrayOf(valueOf(0), 3))), nil},
		{"by a static field", with(only(v, c), static("f", 0, valueOf(0)), static("g", 0, arrayOf(valueOf(0), 1))), nil},
		{"by an object", with(only(v, c), field("f", 0, classOf(1)), field("g", 1, valueOf(0))), nil},
		{"as an object", with(only(v, c), field("f", 0, classOf(0))), nil},
		{"of the same number, as a fault", with(only(c, v), field("f", 1, api.Type{Kind: api.TFault, Index: 1})), nil},
		{"by another one", with(only(v, w), field("f", 0, valueOf(1)), field("f", 1, valueOf(0))), wrong(e, e)},
		{"by another one's array", with(only(v, w), field("f", 0, valueOf(1)), field("f", 1, arrayOf(valueOf(0), 1))), nil},
		{"by another one's static field", with(only(v, w), field("f", 0, valueOf(1)), static("f", 1, valueOf(0))), nil},
		{"by two others", with(only(v, w, x), field("f", 0, valueOf(1)), field("f", 1, valueOf(2)), field("f", 2, valueOf(0))), wrong(e, e, e)},
		{"by two others, the last of their fields", with(only(v, w, x), field("f", 0, num), field("g", 0, valueOf(1)), field("f", 1, num), field("g", 1, valueOf(2)), field("f", 2, num), field("g", 2, valueOf(0))), wrong(e, e, e)},
		{"one that holds itself", with(only(v, w, c), field("f", 0, valueOf(1)), field("f", 1, valueOf(1)), field("f", 2, valueOf(0))), wrong(api.OK, e)},
		{"two ways to one", with(only(v, w, x), field("f", 0, valueOf(1)), field("g", 0, valueOf(2)), field("h", 0, valueOf(1)), field("f", 1, valueOf(2)), field("f", 2, num)), nil},
		{"as a value what is a class", with(only(v, c), field("f", 0, valueOf(1)), field("f", 1, valueOf(0))), nil},
		{"a class as a value of itself", with(only(c, v), field("f", 0, valueOf(0))), nil},
	})
}

// P11.1: of two points that are broken at one type the first is told.
func TestCheckOrderOfPoints(t *testing.T) {
	// Each breaks one point of the value type 0, and no other one, or of type 1, which is a class ahead of it.
	points := []struct {
		told  string
		e     api.Errno
		wrong func(g *api.Image)
	}{
		{"flags", api.ErrTree, func(g *api.Image) { g.Types[0].Flags |= api.FAbstract }},
		{"extends", api.ErrTree, func(g *api.Image) { g.Types[0].Extends = 0 }},
		{"faces", api.ErrTree, func(g *api.Image) { g.Types[0].Faces = []int{2, 1} }},
		{"a type's name", api.ErrName, func(g *api.Image) { g.Types[0].Name = "More" }},
		{"a field's name", api.ErrName, func(g *api.Image) { g.Fields[0].Name = "g" }},
		{"a method's name", api.ErrName, func(g *api.Image) { g.Methods[0].Name = "n" }},
		{"holds itself", api.ErrSize, func(g *api.Image) { g.Fields[1].Type = valueOf(0) }},
	}
	made := func() api.Image {
		return api.Image{
			Types:   []api.TypeDef{def("V", valueFlags, 2), def("C", 0), def("I", faceFlags), def("More", 0)},
			Fields:  []api.Field{field("f", 0, num), field("g", 0, long)},
			Methods: []api.Method{method("m", 0, 0, num), method("n", 0, 0, num)},
			Entry:   -1,
		}
	}
	wantCheck(t, "none", made(), 0, api.OK)
	for i, first := range points {
		g := made()
		first.wrong(&g)
		wantCheck(t, first.told, g, 0, first.e)
		for _, later := range points[i+1:] {
			g := made()
			later.wrong(&g)
			first.wrong(&g)
			wantCheck(t, first.told+" and "+later.told, g, 0, first.e)
			wantAsModel(t, g)
		}
	}
}

// P11.1: of two types that aren't well the first is told, whatever is wrong with either.
func TestCheckOrderOfTypes(t *testing.T) {
	ways := []struct {
		told  string
		e     api.Errno
		wrong func(g *api.Image, i int)
	}{
		{"flags", api.ErrTree, func(g *api.Image, i int) { g.Types[i].Flags = api.FValue }},
		{"extends", api.ErrTree, func(g *api.Image, i int) { g.Types[i].Extends = i }},
		{"faces", api.ErrTree, func(g *api.Image, i int) { g.Types[i].Faces = []int{i} }},
		{"names", api.ErrName, func(g *api.Image, i int) { g.Fields[2*i+1].Name = "f" }},
		{"sizes", api.ErrSize, func(g *api.Image, i int) {
			g.Types[i].Flags, g.Fields[2*i].Type = valueFlags, valueOf(i)
		}},
	}
	made := func() api.Image {
		g := only()
		for i := range 32 {
			g.Types = append(g.Types, def(fmt.Sprint("T", i), 0))
			g.Fields = append(g.Fields, field("f", i, num), field("g", i, num))
		}
		return g
	}
	wantCheck(t, "none", made(), 0, api.OK)
	for _, x := range ways {
		for _, y := range ways {
			for _, at := range [][2]int{{0, 1}, {0, 31}, {7, 9}, {30, 31}} {
				g := made()
				x.wrong(&g, at[0])
				wantCheck(t, x.told, g, at[0], x.e)
				y.wrong(&g, at[1])
				wantCheck(t, x.told+" and "+y.told, g, at[0], x.e)
			}
		}
	}
}

// P11.1: as many types, fields and methods as there may be, and what is wrong at the very end of them.
func TestCheckFull(t *testing.T) {
	made := func() api.Image {
		g := only()
		for i := range 32 {
			g.Types = append(g.Types, sub(fmt.Sprint("T", i), i-1))
		}
		for i := range 64 {
			g.Fields = append(g.Fields, field(fmt.Sprint("f", i), 31, num))
			g.Methods = append(g.Methods, method("m", 31, 0, num, slices.Repeat([]api.Type{refTo(arrayOf(num, i%4)), classOf(i % 32)}, 1+i%3)...))
		}
		return g
	}
	wantCheck(t, "the same methods", made(), 0, api.OK)
	for _, x := range []struct {
		told   string
		at     int
		e      api.Errno
		change func(g *api.Image)
	}{
		{"the first extends the last", 0, api.ErrTree, func(g *api.Image) { g.Types[0].Extends = 31 }},
		{"the last but one is sealed", 31, api.ErrTree, func(g *api.Image) { g.Types[30].Flags = api.FSealed }},
		{"the name of the first", 0, api.ErrName, func(g *api.Image) { g.Types[31].Name = "T0" }},
		{"the last fields' names", 31, api.ErrName, func(g *api.Image) { g.Fields[63].Name = "f62" }},
		{"the first field's name at last", 31, api.ErrName, func(g *api.Image) { g.Fields[63].Name = "f0" }},
		{"the last methods", 31, api.ErrName, func(g *api.Image) { g.Methods[63] = g.Methods[62] }},
		{"the first method at last", 31, api.ErrName, func(g *api.Image) { g.Methods[63] = g.Methods[0] }},
	} {
		g := made()
		x.change(&g)
		wantCheck(t, x.told, g, x.at, x.e)
		wantAsModel(t, g)
	}
}

// P11.1: value types that hold each other, as many as there may be.
func TestCheckLongHolding(t *testing.T) {
	g := only()
	for i := range 32 {
		g.Types = append(g.Types, def(fmt.Sprint("V", i), valueFlags))
		g.Fields = append(g.Fields, field("f", i, valueOf((i+1)%32)))
	}
	wantCheck(t, "a ring", g, 0, api.ErrSize)
	wantAsModel(t, g)
	for i := range 32 {
		h := copyOf(g)
		h.Fields[i].Type = num
		wantCheck(t, "a ring that is cut", h, 0, api.OK)
		h.Fields[i].Type = valueOf(i)
		wantCheck(t, "one that holds itself at the end", h, i, api.ErrSize)
		wantAsModel(t, h)
	}
}

// R1: images that aren't formed: every call ends, and none panics.
func TestWildImages(t *testing.T) {
	numbers := []int{math.MinInt, math.MinInt + 1, -2, -1, 0, 1, 2, 3, 32, 1 << 40, math.MaxInt}
	var l []api.Image
	for k := range 400 {
		pick := func(i int) int { return numbers[(k*(2*i+1)+k/(11+i)+i*i)%len(numbers)] }
		g := api.Image{Entry: pick(0)}
		for i := range k % 5 {
			g.Types = append(g.Types, api.TypeDef{Name: "T", Flags: pick(i + 1), Extends: pick(i + 2), Faces: []int{pick(i + 3), pick(i + 4), 1, 0, pick(i + 5), 0}})
		}
		for i := range k % 7 {
			g.Fields = append(g.Fields, api.Field{Owner: pick(i + 1), Type: api.Type{Kind: 4 + pick(i+2)%4, Index: pick(i + 3)}})
			g.Methods = append(g.Methods, api.Method{Owner: pick(i + 4), Flags: pick(i + 1), Ret: api.Type{Kind: pick(i)}})
		}
		l = append(l, g)
	}
	for _, g := range l {
		was := copyOf(g)
		Check(g)
		for _, a := range numbers {
			if k, there := Kind(g, a), a >= 0 && a < len(g.Types); (k >= 0) != there || k > 3 {
				t.Errorf("Kind of %d: %d: %+v", a, k, g)
			}
			for _, x := range [][]int{Up(g, a), Faces(g, a)} {
				if slices.ContainsFunc(x, func(i int) bool { return i < 0 || i >= len(g.Types) }) {
					t.Errorf("types that aren't there: %v: %+v", x, g)
				}
			}
			if f, m := Fields(g, a), Methods(g, a); !isRising(f) || !isRising(m) || !isRising(Faces(g, a)) {
				t.Errorf("not rising: %v, %v: %+v", f, m, g)
			}
			for _, b := range numbers {
				Below(g, a, b)
			}
		}
		if !sameImage(g, was) {
			t.Errorf("the image was changed: %+v", g)
		}
	}
}

// R1: far more types than an image may have, in a chain, a ring, and by faces.
func TestFarTooMany(t *testing.T) {
	const n = 200000
	g := only()
	for i := range n {
		g.Types = append(g.Types, sub("T", i+1, (i+1)%n))
	}
	wantCheck(t, "a chain", g, 0, api.ErrArg)
	if u, f := Up(g, 0), Faces(g, 5); len(u) != n || u[n-1] != n-1 || len(f) != n || !isRising(f) {
		t.Error("a chain", len(u), len(f))
	}
	g.Types[n-1].Extends = 0
	if u := Up(g, 7); len(u) != n || u[n-1] != 6 {
		t.Error("a ring", len(u))
	}
}

func spoil(l []int) {
	l = l[:cap(l)]
	for i := range l {
		l[i] = 9
	}
}

// R4: what is handed in stays as it was, spare room included; what is answered is new memory.
func TestFreshMemory(t *testing.T) {
	lists := []struct {
		told string
		call func(g api.Image, t int) []int
	}{{"Up", Up}, {"Faces", Faces}, {"Fields", Fields}, {"Methods", Methods}}
	made := func() (api.Image, [][]int) {
		g := good()
		var rooms [][]int
		for i := range g.Types {
			room := []int{7, 7, 7, 7, 7, 7, 7, 7}
			copy(room, g.Types[i].Faces)
			g.Types[i].Faces = room[:len(g.Types[i].Faces)]
			rooms = append(rooms, room)
		}
		return g, rooms
	}
	g, rooms := made()
	_, same := made()
	for _, x := range lists {
		for i := range g.Types {
			want := slices.Clone(x.call(good(), i))
			l, again := x.call(g, i), x.call(g, i)
			Check(g)
			Below(g, i, 0)
			if !slices.EqualFunc(rooms, same, slices.Equal[[]int]) {
				t.Fatalf("%s of %d: changed: %v", x.told, i, rooms)
			}
			spoil(l)
			wantList(t, g, x.told+", once spoilt,", i, again, want)
			wantList(t, g, x.told+", once spoilt,", i, x.call(g, i), want)
		}
	}
	l := Faces(g, 6)
	for _, x := range rooms {
		spoil(x)
	}
	wantList(t, good(), "Faces, with the image's spoilt,", 6, l, []int{0, 1, 2, 3})
}
