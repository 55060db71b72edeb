package slots

import (
	"math"
	"testing"

	"cattlegrid/api"
)

// P13.1: what makes methods alike, and what doesn't count.
func TestAlike(t *testing.T) {
	m := answers(num, "f", 1, virtual, num, long)
	for _, c := range []struct {
		name string
		turn func(m *api.Method)
		want bool
	}{
		{"itself", func(m *api.Method) {}, true},
		{"another name", func(m *api.Method) { m.Name = "g" }, false},
		{"a longer name", func(m *api.Method) { m.Name = "ff" }, false},
		{"no name", func(m *api.Method) { m.Name = "" }, false},
		{"another parameter", func(m *api.Method) { m.Params = []api.Type{num, num} }, false},
		{"another first parameter", func(m *api.Method) { m.Params = []api.Type{long, long} }, false},
		{"one more", func(m *api.Method) { m.Params = []api.Type{num, long, num} }, false},
		{"one less", func(m *api.Method) { m.Params = []api.Type{num} }, false},
		{"none", func(m *api.Method) { m.Params = nil }, false},
		{"another order", func(m *api.Method) { m.Params = []api.Type{long, num} }, false},
		{"an array", func(m *api.Method) { m.Params = []api.Type{arrayOf(num, 1), long} }, false},
		{"an address", func(m *api.Method) { m.Params = []api.Type{num, refTo(long)} }, false},
		{"another answer", func(m *api.Method) { m.Ret = long }, false},
		{"no answer", func(m *api.Method) { m.Ret = void }, false},
		{"an array for an answer", func(m *api.Method) { m.Ret = arrayOf(num, 2) }, false},
		{"static", func(m *api.Method) { m.Flags = api.MStatic }, false},
		{"static, too", func(m *api.Method) { m.Flags |= api.MStatic }, false},
		{"not virtual", func(m *api.Method) { m.Flags = 0 }, true},
		{"all flags but static", func(m *api.Method) { m.Flags = 30 }, true},
		{"all flags", func(m *api.Method) { m.Flags = 31 }, false},
		{"another owner", func(m *api.Method) { m.Owner = 2 }, true},
		{"locals", func(m *api.Method) { m.Locals = []api.Type{num} }, true},
		{"another Max", func(m *api.Method) { m.Max = 7 }, true},
		{"no code", func(m *api.Method) { m.Code = nil }, true},
		{"clauses", func(m *api.Method) { m.Clauses = []api.Clause{finally()} }, true},
	} {
		x := m
		c.turn(&x)
		if Alike(m, x) != c.want || Alike(x, m) != c.want {
			t.Error(c.name)
		}
	}
}

// P13.1: two static methods, methods without parameters, and types that differ in their numbers alone.
func TestAlikeMore(t *testing.T) {
	for _, c := range []struct {
		a, b api.Method
		want bool
	}{
		{method("f", 0, static), method("f", 1, static), true},
		{method("f", 0, static), method("f", 1, static|virtual), true},
		{method("f", 0, static|ctor), method("f", 1, virtual), false},
		{method("f", 0, 0), method("f", 1, abstract), true},
		{method("f", 0, anew), method("f", 1, ctor), true},
		{api.Method{Name: "f", Params: nil}, api.Method{Name: "f", Params: []api.Type{}}, true},
		{api.Method{}, api.Method{}, true},
		{method("f", 0, 0, objectType(1)), method("f", 0, 0, objectType(2)), false},
		{method("f", 0, 0, objectType(1)), method("f", 0, 0, valueType(1)), false},
		{answers(faultType(1), "f", 0, 0), answers(faultType(2), "f", 0, 0), false},
		{answers(faultType(1), "f", 0, 0), answers(faultType(1), "f", 0, 0), true},
		{answers(refTo(num), "f", 0, 0), answers(num, "f", 0, 0), false},
		{method("f", 0, math.MinInt), method("f", 0, 0), true},
		{method("f", 0, -1), method("f", 0, math.MaxInt), true},
		{method("f", 0, -2), method("f", 0, math.MaxInt), false},
	} {
		if Alike(c.a, c.b) != c.want || Alike(c.b, c.a) != c.want {
			t.Error(c)
		}
	}
}

// The chapter's example.
func TestExample(t *testing.T) {
	g := with([]api.TypeDef{def("A", 0), sub("B", 0)}, method("f", 0, virtual), method("g", 0, virtual), method("g", 1, virtual))
	wantTable(t, g, 1, 0, 2)
}

// The numbers of good's types.
const (
	fI       = iota // the interface I
	fJ              // the interface J, which has I
	value           // a value type
	top             // a class that extends nothing
	middle          // extends top
	leaf            // extends middle
	bare            // a class without methods, that extends nothing
	lone            // extends bare
	delegate        // a delegate
)

// The numbers of good's methods.
const (
	fF = iota // of I: f
	jG        // of J: g of an int
	valueF
	valueS
	topCtor
	topF
	topG
	topN
	topS
	topH
	middleF
	middleG
	middleN
	middleK
	leafF
	leafH
	leafN
	leafS
	loneF
	loneG
	invoke
	goodMethods
)

// good is an image that is well: of two interfaces, of classes that put over, and begin anew, what they extend has, and one that does what its interfaces ask for.
func good() api.Image {
	g := with([]api.TypeDef{
		def("I", faceFlags), def("J", faceFlags, fI), def("V", valueFlags), def("top", api.FAbstract, fJ), sub("middle", top), sub("leaf", middle, fI), def("bare", 0), sub("lone", bare, fJ), def("D", delegateFlags),
	},
		method("f", fI, abstract), answers(num, "g", fJ, abstract, num),
		method("f", value, 0), method("f", value, static),
		method("new", top, ctor, num), method("f", top, virtual), answers(num, "g", top, abstract, num), method("n", top, 0), method("s", top, static), method("h", top, virtual),
		method("f", middle, anew), answers(num, "g", middle, virtual, num), method("n", middle, virtual), method("k", middle, abstract|api.MNew),
		method("f", leaf, virtual), method("h", leaf, anew), method("n", leaf, virtual), method("s", leaf, static),
		method("f", lone, virtual), answers(num, "g", lone, virtual, num),
		method("invoke", delegate, abstract),
	)
	g.Types[middle].Flags = api.FAbstract
	g.Types[leaf].Flags = api.FAbstract
	g.Entry = topS
	return g
}

func TestGoodIsWell(t *testing.T) {
	g := good()
	wantCheck(t, "good", g, api.Spot{}, api.OK)
	if len(g.Methods) != goodMethods {
		t.Error(len(g.Methods))
	}
}

// P13.2: the slots of classes that extend nothing, one and several; nothing of what is no class.
func TestTable(t *testing.T) {
	g := good()
	wantTable(t, g, top, topF, topG, topH)
	wantTable(t, g, middle, topF, middleG, topH, middleF, middleN, middleK)
	// Of top's f and middle's, which are alike, the first one's slot is taken.
	wantTable(t, g, leaf, leafF, middleG, topH, middleF, leafN, middleK, leafH)
	wantTable(t, g, bare)
	wantTable(t, g, lone, loneF, loneG)
	for _, k := range []int{fI, fJ, value, delegate, -1, len(g.Types), math.MinInt, math.MaxInt} {
		if l := Table(g, k); l != nil {
			t.Error(k, l)
		}
	}
}

// P13.2: what takes a place, and what doesn't.
func TestTableOfTwo(t *testing.T) {
	for _, c := range []struct {
		name string
		b    api.Method
		want []int
	}{
		{"takes the place", method("f", 1, virtual, num), []int{2, 1}},
		{"has MNew", method("f", 1, anew, num), []int{0, 1, 2}},
		{"has MNew and MAbstract", method("f", 1, anew|abstract, num), []int{0, 1, 2}},
		{"takes the place with MAbstract", method("f", 1, abstract, num), []int{2, 1}},
		{"isn't virtual", method("f", 1, 0, num), []int{0, 1}},
		{"isn't virtual, with MNew", method("f", 1, api.MNew, num), []int{0, 1}},
		{"isn't virtual, with MAbstract", method("f", 1, api.MAbstract, num), []int{0, 1}},
		{"is static", method("f", 1, static, num), []int{0, 1}},
		{"is a ctor", method("f", 1, ctor, num), []int{0, 1}},
		{"takes the second place", answers(num, "f", 1, virtual, num), []int{0, 2}},
		{"another name", method("g", 1, virtual, num), []int{0, 1, 2}},
		{"other parameters", method("f", 1, virtual, long), []int{0, 1, 2}},
		{"no parameters", method("f", 1, virtual), []int{0, 1, 2}},
		{"another answer", answers(long, "f", 1, virtual, num), []int{0, 1, 2}},
		// A static one that has MVirtual isn't well, but it is virtual: alike to a static one alone.
		{"static and virtual", method("f", 1, static|virtual, num), []int{0, 1, 2}},
	} {
		g := with([]api.TypeDef{def("A", 0), sub("B", 0)}, method("f", 0, virtual, num), answers(num, "f", 0, virtual, num), c.b)
		wantFieldsWell(t, g)
		wantTable(t, g, 0, 0, 1)
		wantTable(t, g, 1, c.want...)
	}
}

// P13.2: the methods of what is extended needn't stand ahead, and all of a class's own go in their order.
func TestTableTheOtherWayRound(t *testing.T) {
	g := with([]api.TypeDef{sub("A", 1), sub("B", 2), def("C", 0)},
		method("c", 0, virtual), method("b", 0, virtual), method("a", 0, virtual), method("x", 0, virtual),
		method("b", 1, virtual), method("d", 1, virtual), method("a", 1, anew),
		method("a", 2, virtual), method("c", 2, virtual), method("b", 2, 0))
	wantTable(t, g, 2, 7, 8)
	wantTable(t, g, 1, 7, 8, 4, 5, 6)
	wantTable(t, g, 0, 2, 0, 1, 5, 6, 3)
}

// P13.2: of several slots whose methods are alike the first is taken, again and again.
func TestTableOfManyAlike(t *testing.T) {
	g := with([]api.TypeDef{def("A", 0), sub("B", 0), sub("C", 1), sub("D", 2), sub("E", 3)},
		method("f", 0, virtual), method("f", 1, anew), method("f", 2, anew), method("f", 3, virtual), method("f", 4, virtual))
	wantTable(t, g, 2, 0, 1, 2)
	wantTable(t, g, 3, 3, 1, 2)
	wantTable(t, g, 4, 4, 1, 2)
	for m, want := range []int{0, 1, 2, 0, 0} {
		if x := Slot(g, m); x != want {
			t.Error(m, x)
		}
	}
	// What the first of them does for one that is put over is told of each of its class's own.
	for m, want := range []int{4, 1, 2, 4, 4} {
		wantFind(t, g, 4, m, want)
	}
}

// P13.2: the slots of methods, among those of their own class.
func TestSlot(t *testing.T) {
	want := map[int]int{topF: 0, topG: 1, topH: 2, middleF: 3, middleG: 1, middleN: 4, middleK: 5, leafF: 0, leafH: 6, leafN: 4, loneF: 0, loneG: 1}
	g := good()
	for m := range g.Methods {
		at, ok := want[m]
		if !ok {
			at = -1
		}
		if x := Slot(g, m); x != at {
			t.Error(m, x, at)
		}
	}
	for _, m := range []int{-1, goodMethods, math.MinInt, math.MaxInt} {
		if x := Slot(g, m); x != -1 {
			t.Error(m, x)
		}
	}
	// Of what is no class no method has a slot, whatever its flags.
	for _, flags := range []int{faceFlags, valueFlags, delegateFlags} {
		g := with([]api.TypeDef{def("A", flags)}, method("f", 0, virtual), method("g", 0, abstract), method("h", 0, static|virtual))
		wantFieldsWell(t, g)
		for m := range g.Methods {
			if x := Slot(g, m); x != -1 {
				t.Error(flags, m, x)
			}
		}
	}
}

// P13.2: what does a class's virtual method for its own class and those below.
func TestFindOfClasses(t *testing.T) {
	g := good()
	for _, c := range [][4]int{
		// The method; for top, for middle, for leaf.
		{topF, topF, topF, leafF}, {topG, topG, middleG, middleG}, {topH, topH, topH, topH},
		{topN, topN, topN, topN}, {topS, topS, topS, topS}, {topCtor, topCtor, topCtor, topCtor},
		{middleF, -1, middleF, middleF}, {middleG, -1, middleG, middleG}, {middleN, -1, middleN, leafN}, {middleK, -1, middleK, middleK},
		{leafF, -1, -1, leafF}, {leafH, -1, -1, leafH}, {leafN, -1, -1, leafN}, {leafS, -1, -1, leafS},
		{loneF, -1, -1, -1}, {valueF, -1, -1, -1}, {valueS, -1, -1, -1}, {invoke, -1, -1, -1},
		{-1, -1, -1, -1}, {goodMethods, -1, -1, -1}, {math.MinInt, -1, -1, -1}, {math.MaxInt, -1, -1, -1},
	} {
		wantFind(t, g, top, c[0], c[1])
		wantFind(t, g, middle, c[0], c[2])
		wantFind(t, g, leaf, c[0], c[3])
		for _, k := range []int{fI, fJ, value, delegate, bare, -1, len(g.Types), math.MinInt, math.MaxInt} {
			wantFind(t, g, k, c[0], -1)
		}
	}
	for m := range g.Methods {
		want := -1
		if m == loneF || m == loneG {
			want = m
		}
		if m != fF && m != jG {
			wantFind(t, g, lone, m, want)
		}
	}
}

// P13.2: what does an interface's virtual method.
func TestFindOfInterfaces(t *testing.T) {
	g := good()
	for _, c := range [][3]int{
		{top, fF, topF}, {top, jG, topG},
		// Going up from middle its own f is the first, and no longer top's.
		{middle, fF, middleF}, {middle, jG, middleG},
		// Leaf's own f is the first, which stands in top's slot.
		{leaf, fF, leafF}, {leaf, jG, middleG},
		{lone, fF, loneF}, {lone, jG, loneG},
		{bare, fF, -1}, {fJ, fF, -1}, {fI, fF, -1}, {value, fF, -1}, {delegate, fF, -1}, {-1, fF, -1}, {99, fF, -1},
	} {
		wantFind(t, g, c[0], c[1], c[2])
	}
}

// P13.2: an interface's method that what the class extends does, put over there by the class without being the first alike going up.
func TestFindPutOver(t *testing.T) {
	types := []api.TypeDef{def("I", faceFlags), def("A", 0), sub("B", 1), sub("C", 2, 0), sub("D", 3)}
	f := method("f", 0, abstract)
	for _, c := range []struct {
		name    string
		methods []api.Method
		forC    int
		forD    int
	}{
		{"nothing does", []api.Method{f}, -1, -1},
		{"the farthest one", []api.Method{f, method("f", 1, virtual)}, 1, 1},
		{"put over once", []api.Method{f, method("f", 1, virtual), method("f", 2, virtual)}, 2, 2},
		{"put over twice", []api.Method{f, method("f", 1, virtual), method("f", 2, virtual), method("f", 3, virtual)}, 3, 3},
		{"put over below", []api.Method{f, method("f", 1, virtual), method("f", 4, virtual)}, 1, 2},
		{"anew in between", []api.Method{f, method("f", 1, virtual), method("f", 2, anew)}, 2, 2},
		// D's f takes A's slot: going up from D it is the first alike.
		{"anew in between, put over below", []api.Method{f, method("f", 1, virtual), method("f", 2, anew), method("f", 4, virtual)}, 2, 3},
		{"anew below", []api.Method{f, method("f", 1, virtual), method("f", 4, anew)}, 1, 2},
		{"not virtual in between", []api.Method{f, method("f", 1, virtual), method("f", 2, 0)}, 1, 1},
		{"static in between", []api.Method{f, method("f", 1, virtual), method("f", 2, static)}, 1, 1},
		{"a ctor in between", []api.Method{f, method("f", 1, virtual), method("f", 2, ctor)}, 1, 1},
		{"not virtual alone", []api.Method{f, method("f", 1, 0)}, -1, -1},
		{"static alone", []api.Method{f, method("f", 3, static)}, -1, -1},
		{"another name", []api.Method{f, method("g", 3, virtual)}, -1, -1},
		{"other parameters", []api.Method{f, method("f", 1, virtual), method("f", 3, virtual, num)}, 1, 1},
		{"another answer", []api.Method{f, answers(num, "f", 3, virtual)}, -1, -1},
		{"with MAbstract", []api.Method{f, method("f", 2, abstract)}, 1, 1},
		{"an interface's own that isn't virtual", []api.Method{method("f", 0, 0), method("f", 1, virtual)}, 0, 0},
		{"an interface's own that is static", []api.Method{method("f", 0, static), method("f", 1, virtual)}, 0, 0},
		{"static and virtual", []api.Method{method("f", 0, static|virtual), method("f", 1, virtual)}, -1, -1},
	} {
		g := with(types, c.methods...)
		wantFieldsWell(t, g)
		for k, want := range []int{-1, -1, -1, c.forC, c.forD} {
			if x := Find(g, k, 0); x != want {
				t.Error(c.name, k, x, want)
			}
		}
	}
}

// P13.2: a class has the interfaces of what it extends, and those of its interfaces.
func TestFindByWays(t *testing.T) {
	g := with([]api.TypeDef{def("I", faceFlags), def("J", faceFlags, 0), def("K", faceFlags, 1), def("A", 0, 2), sub("B", 3), def("C", 0)},
		method("f", 0, abstract), method("g", 1, abstract), method("f", 2, abstract),
		method("f", 3, virtual), method("g", 3, virtual), method("f", 4, virtual), method("f", 5, virtual))
	for k, want := range [][]int{{-1, -1, -1}, {-1, -1, -1}, {-1, -1, -1}, {3, 4, 3}, {5, 4, 5}, {-1, -1, -1}} {
		for m, x := range want {
			wantFind(t, g, k, m, x)
		}
	}
}
