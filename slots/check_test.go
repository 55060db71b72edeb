package slots

import (
	"fmt"
	"slices"
	"testing"

	"cattlegrid/api"
	"cattlegrid/layout"
)

// spoiled are turns of good's that leave its fields well, each with what Check then tells.
func spoiled() []struct {
	name string
	turn func(g *api.Image)
	s    api.Spot
	e    api.Errno
} {
	return []struct {
		name string
		turn func(g *api.Image)
		s    api.Spot
		e    api.Errno
	}{
		{"flags", func(g *api.Image) { g.Methods[topN].Flags = api.MNew }, ofM(topN), api.ErrSlot},
		{"no code", func(g *api.Image) { g.Methods[topN].Code = nil }, ofM(topN), api.ErrSlot},
		{"an interface's method with code", func(g *api.Image) { g.Methods[fF] = method("f", fI, virtual) }, ofM(fF), api.ErrSlot},
		{"a class without FAbstract", func(g *api.Image) { g.Methods[loneF] = method("f", lone, abstract) }, ofM(loneF), api.ErrSlot},
		{"a type", func(g *api.Image) { g.Methods[leafS].Locals = []api.Type{objectType(value)} }, ofM(leafS), api.ErrType},
		{"a class", func(g *api.Image) { g.Types[leaf].Flags = 0 }, ofT(leaf), api.ErrName},
		{"an interface's method", func(g *api.Image) { g.Methods[loneF].Name = "x" }, ofT(lone), api.ErrName},
		{"a delegate", func(g *api.Image) { g.Methods = g.Methods[:invoke] }, ofT(delegate), api.ErrSlot},
		{"an entry", func(g *api.Image) { g.Entry = topN }, ofM(topN), api.ErrFlow},
	}
}

// P13.1: each of the things that may be wrong, by itself.
func TestCheckOne(t *testing.T) {
	for _, c := range spoiled() {
		g := good()
		c.turn(&g)
		wantFieldsWell(t, g)
		wantCheck(t, c.name, g, c.s, c.e)
	}
}

// order is at which place Check tells what is wrong: methods, classes, delegates, the entry.
func order(s api.Spot, e api.Errno) int {
	switch {
	case e == api.ErrFlow:
		return 3000
	case s.Kind == 1:
		return s.Index
	case e == api.ErrName:
		return 1000 + s.Index
	}
	return 2000 + s.Index
}

// P13.1: of two wrongs that is told which stands ahead: methods ahead of classes, these ahead of delegates, and these ahead of the entry.
func TestCheckTwo(t *testing.T) {
	l := spoiled()
	for i, a := range l {
		for _, b := range l[i+1:] {
			g := good()
			a.turn(&g)
			b.turn(&g)
			want := a
			if order(b.s, b.e) < order(a.s, a.e) {
				want = b
			}
			if order(b.s, b.e) == order(a.s, a.e) {
				continue
			}
			wantCheck(t, a.name+", "+b.name, g, want.s, want.e)
		}
	}
}

// P13.1: ErrArg and a zero Spot where not all fields are well, by each of layer 12's errors, whatever else is wrong.
func TestCheckArg(t *testing.T) {
	wrong := []struct {
		name string
		turn func(g *api.Image)
		e    api.Errno
	}{
		{"not formed: a name", func(g *api.Image) { g.Types[bare].Name = "" }, api.ErrArg},
		{"not formed: the entry", func(g *api.Image) { g.Entry = goodMethods }, api.ErrArg},
		{"not formed: Max", func(g *api.Image) { g.Methods[topN].Max = 13 }, api.ErrArg},
		{"not formed: void among the locals", func(g *api.Image) { g.Methods[topN].Locals = []api.Type{void} }, api.ErrArg},
		{"not formed: an address for an answer", func(g *api.Image) { g.Methods[topN].Ret = refTo(num) }, api.ErrArg},
		{"not formed: a type behind the last one", func(g *api.Image) { g.Methods[topN].Params = []api.Type{objectType(9)} }, api.ErrArg},
		{"not formed: a clause without code", func(g *api.Image) { g.Methods[jG].Clauses = []api.Clause{finally()} }, api.ErrArg},
		{"types: a name twice", func(g *api.Image) { g.Types[bare].Name = "top" }, api.ErrArg},
		{"types: a method twice", func(g *api.Image) { g.Methods[middleK].Name = "n" }, api.ErrArg},
		{"types: a face that is none", func(g *api.Image) { g.Types[bare].Faces = []int{top} }, api.ErrArg},
		{"types: flags", func(g *api.Image) { g.Types[value].Flags = api.FValue }, api.ErrArg},
		{"types: what may not be extended", func(g *api.Image) { g.Types[middle].Flags |= api.FSealed }, api.ErrArg},
		{"types: a value within itself", func(g *api.Image) { g.Fields = fieldsOf(value, valueType(value)) }, api.ErrArg},
		{"a field's type", func(g *api.Image) { g.Fields = fieldsOf(top, objectType(value)) }, api.ErrType},
		{"a value that is too large", func(g *api.Image) { g.Fields = fieldsOf(value, slices.Repeat([]api.Type{num}, 9)...) }, api.ErrSize},
		{"an object that is too large", func(g *api.Image) { g.Fields = fieldsOf(lone, slices.Repeat([]api.Type{num}, 33)...) }, api.ErrSize},
	}
	for _, w := range wrong {
		g := good()
		w.turn(&g)
		if _, e := layout.Check(g); e != w.e {
			t.Error(w.name, e)
		}
		wantCheck(t, w.name, g, api.Spot{}, api.ErrArg)
		for _, c := range spoiled() {
			g := good()
			c.turn(&g)
			w.turn(&g)
			wantCheck(t, w.name+", "+c.name, g, api.Spot{}, api.ErrArg)
		}
	}
}

// fieldsOf are fields of these types, each with a name of its own.
func fieldsOf(owner int, types ...api.Type) []api.Field {
	var l []api.Field
	for i, t := range types {
		l = append(l, api.Field{Name: fmt.Sprint("f", i), Owner: owner, Type: t})
	}
	return l
}

// P13.1: images without anything are well, and fields that are well are none of its matter.
func TestCheckOK(t *testing.T) {
	wantCheck(t, "nothing", with(nil), api.Spot{}, api.OK)
	wantCheck(t, "no methods", with([]api.TypeDef{def("A", 0), def("V", valueFlags), def("I", faceFlags), def("B", api.FSealed, 2)}), api.Spot{}, api.OK)
	g := good()
	g.Fields = append(fieldsOf(value, slices.Repeat([]api.Type{num}, 8)...), fieldsOf(top, objectType(fI), valueType(value), arrayOf(num, 3))...)
	wantCheck(t, "fields", g, api.Spot{}, api.OK)
}

// P13.1: which flags are right by themselves, of methods of each kind of types: all others are refused.
func TestCheckFlags(t *testing.T) {
	of := map[string][]int{
		"class":     {0, static, virtual, anew, ctor},
		"abstract":  {0, static, virtual, anew, ctor, abstract, abstract | anew},
		"sealed":    {0, static, virtual, anew, ctor},
		"value":     {0, static},
		"interface": {abstract, abstract | anew},
		"delegate":  {abstract, abstract | anew},
	}
	for name, flags := range map[string]int{"class": 0, "abstract": api.FAbstract, "sealed": api.FSealed, "value": valueFlags, "interface": faceFlags, "delegate": delegateFlags} {
		for f := range 32 {
			g := with([]api.TypeDef{def("A", 0), def("T", flags)}, method("first", 0, 0), method("f", 1, f))
			wantFieldsWell(t, g)
			s, e := api.Spot{}, api.OK
			if !slices.Contains(of[name], f) {
				s, e = ofM(1), api.ErrSlot
			}
			wantCheck(t, fmt.Sprint(name, f), g, s, e)
			// An answer is right of all but a ctor.
			g.Methods[1].Ret = num
			if f == ctor {
				s, e = ofM(1), api.ErrSlot
			}
			wantCheck(t, fmt.Sprint(name, f, "answers"), g, s, e)
		}
	}
}

// P13.1: a ctor answers nothing at all.
func TestCheckCtor(t *testing.T) {
	g := with([]api.TypeDef{def("A", api.FAbstract)}, method("new", 0, ctor, num, long), method("new", 0, ctor))
	wantCheck(t, "two", g, api.Spot{}, api.OK)
	for _, x := range []api.Type{num, long, object, objectType(0), faultType(1), arrayOf(num, 1)} {
		g.Methods[1].Ret = x
		wantCheck(t, fmt.Sprint(x), g, ofM(1), api.ErrSlot)
	}
}

// P13.1: with MAbstract there is nothing that is run; without it there is code.
func TestCheckBody(t *testing.T) {
	parts := []struct {
		name string
		turn func(m *api.Method)
	}{
		{"code", func(m *api.Method) { m.Code = code() }},
		{"one instruction", func(m *api.Method) { m.Code = code()[1:] }},
		{"code and clauses", func(m *api.Method) { m.Code, m.Clauses = code(), []api.Clause{finally()} }},
		{"locals", func(m *api.Method) { m.Locals = []api.Type{num} }},
		{"a Max", func(m *api.Method) { m.Max = 1 }},
		{"the greatest Max", func(m *api.Method) { m.Max = api.MaxStack }},
	}
	for _, owner := range []struct{ flags, m int }{{api.FAbstract, abstract}, {api.FAbstract, abstract | anew}, {faceFlags, abstract}, {delegateFlags, abstract}} {
		for _, p := range parts {
			g := with([]api.TypeDef{def("T", owner.flags)}, method("f", 0, owner.m))
			wantCheck(t, "nothing", g, api.Spot{}, api.OK)
			p.turn(&g.Methods[0])
			wantFieldsWell(t, g)
			wantCheck(t, fmt.Sprint(owner, p.name), g, ofM(0), api.ErrSlot)
		}
	}
	for _, owner := range []struct{ flags, m int }{{0, 0}, {0, static}, {0, virtual}, {0, anew}, {0, ctor}, {api.FAbstract, virtual}, {valueFlags, 0}, {valueFlags, static}} {
		for _, p := range parts {
			g := with([]api.TypeDef{def("T", owner.flags)}, method("f", 0, owner.m))
			p.turn(&g.Methods[0])
			wantCheck(t, fmt.Sprint(owner, p.name), g, api.Spot{}, api.OK)
			if g.Methods[0].Clauses != nil {
				continue
			}
			g.Methods[0].Code = nil
			wantCheck(t, fmt.Sprint(owner, p.name, "without code"), g, ofM(0), api.ErrSlot)
		}
	}
}

// P13.1: a delegate has one method: of two the first isn't well, and of none the delegate itself.
func TestCheckDelegates(t *testing.T) {
	types := []api.TypeDef{def("A", 0), def("D", delegateFlags), def("E", delegateFlags), def("F", delegateFlags)}
	one := func(owner int) api.Method { return answers(num, "one", owner, abstract, long) }
	two := func(owner int) api.Method { return method("two", owner, abstract) }
	for _, c := range []struct {
		name    string
		methods []api.Method
		s       api.Spot
		e       api.Errno
	}{
		{"one each", []api.Method{one(1), one(2), two(3)}, api.Spot{}, api.OK},
		{"none of the first", []api.Method{one(2), one(3)}, ofT(1), api.ErrSlot},
		{"none of the second", []api.Method{one(1), one(3)}, ofT(2), api.ErrSlot},
		{"none of the last", []api.Method{one(1), one(2)}, ofT(3), api.ErrSlot},
		{"none of two", []api.Method{one(1)}, ofT(2), api.ErrSlot},
		{"none at all", nil, ofT(1), api.ErrSlot},
		{"two of the first", []api.Method{one(1), two(1), one(2), one(3)}, ofM(0), api.ErrSlot},
		{"two of the last", []api.Method{one(1), one(2), one(3), two(3)}, ofM(2), api.ErrSlot},
		{"three", []api.Method{one(1), two(1), method("three", 1, abstract), one(2), one(3)}, ofM(0), api.ErrSlot},
		{"two, and none", []api.Method{one(2), two(2), one(3)}, ofM(0), api.ErrSlot},
		{"static ones count, too", []api.Method{one(1), one(2), one(3), method("s", 3, static)}, ofM(2), api.ErrSlot},
	} {
		wantCheck(t, c.name, with(types, c.methods...), c.s, c.e)
	}
	// Others may have as many methods as they like, or none.
	g := with([]api.TypeDef{def("A", api.FAbstract), def("I", faceFlags)}, one(0), two(0), one(1), two(1))
	wantCheck(t, "others", g, api.Spot{}, api.OK)
}

// P13.1: of a class with MAbstract the class itself has FAbstract, whatever those have that it extends, or that extend it.
func TestCheckAbstract(t *testing.T) {
	for _, c := range []struct {
		base, own, below int
		s                api.Spot
		e                api.Errno
	}{
		{0, 0, 0, ofM(0), api.ErrSlot},
		{api.FAbstract, 0, 0, ofM(0), api.ErrSlot},
		{api.FAbstract, 0, api.FAbstract, ofM(0), api.ErrSlot},
		{0, api.FAbstract, 0, ofT(2), api.ErrName},
		{0, api.FAbstract, api.FAbstract, api.Spot{}, api.OK},
		{0, api.FAbstract, api.FAbstract | api.FSealed, api.Spot{}, api.OK},
		{0, api.FAbstract, api.FSealed, ofT(2), api.ErrName},
	} {
		g := with([]api.TypeDef{def("A", c.base), sub("B", 0), sub("C", 1)}, method("f", 1, abstract))
		g.Types[1].Flags, g.Types[2].Flags = c.own, c.below
		wantCheck(t, fmt.Sprint(c), g, c.s, c.e)
	}
}

// mayStand are types that are used well in the images of TestCheckTypes, and mayNot those that aren't, though the images are formed.
func mayStand() []api.Type {
	return []api.Type{num, long, object, faultType(0), faultType(7), objectType(0), objectType(2), objectType(3), valueType(1), arrayOf(valueType(1), 1), arrayOf(objectType(0), 3), arrayOf(num, 2)}
}

func mayNot() []api.Type {
	return []api.Type{objectType(1), valueType(0), valueType(2), valueType(3), arrayOf(objectType(1), 1), arrayOf(valueType(0), 3)}
}

// P13.1: each place at which a method names a type.
func TestCheckTypes(t *testing.T) {
	types := []api.TypeDef{def("A", 0), def("V", valueFlags), def("I", faceFlags), def("D", delegateFlags)}
	places := []struct {
		name string
		put  func(m *api.Method, x api.Type)
	}{
		{"the parameter", func(m *api.Method, x api.Type) { m.Params = []api.Type{x} }},
		{"the last parameter", func(m *api.Method, x api.Type) { m.Params = []api.Type{num, long, valueType(1), x} }},
		{"an address as a parameter", func(m *api.Method, x api.Type) { m.Params = []api.Type{refTo(x), num} }},
		{"the answer", func(m *api.Method, x api.Type) { m.Ret = x }},
		{"the local", func(m *api.Method, x api.Type) { m.Locals = []api.Type{x} }},
		{"the last local", func(m *api.Method, x api.Type) { m.Locals = append(slices.Repeat([]api.Type{num}, 11), x) }},
		{"an address as a local", func(m *api.Method, x api.Type) { m.Locals = []api.Type{num, refTo(x)} }},
		{"the first instruction", func(m *api.Method, x api.Type) { m.Code = []api.Instr{{Op: api.ONewarr, T: x}, {Op: api.ORet}} }},
		{"the last instruction", func(m *api.Method, x api.Type) { m.Code = []api.Instr{{Op: api.OLdc4}, {Op: api.OBox, T: x}} }},
		{"what the clause catches", func(m *api.Method, x api.Type) { m.Clauses = []api.Clause{catches(x)} }},
		{"what a later clause catches", func(m *api.Method, x api.Type) {
			m.Code = append(code(), code()...)
			c := catches(x)
			c.TryFrom, c.TryTo, c.HandFrom, c.HandTo = 2, 3, 3, 4
			m.Clauses = []api.Clause{finally(), c}
		}},
	}
	for _, p := range places {
		for flags := range map[int]int{0: 0, static: 0, virtual: 0} {
			for _, last := range []bool{false, true} {
				g := with(types, method("f", 0, flags), method("g", 0, flags), method("invoke", 3, abstract))
				k := 0
				if last {
					k = 1
				}
				for _, x := range mayStand() {
					p.put(&g.Methods[k], x)
					wantCheck(t, fmt.Sprint(p.name, x), g, api.Spot{}, api.OK)
				}
				for _, x := range mayNot() {
					p.put(&g.Methods[k], x)
					wantFieldsWell(t, g)
					wantCheck(t, fmt.Sprint(p.name, x), g, ofM(k), api.ErrType)
				}
			}
		}
	}
}

// P13.1: each instruction that has a type.
func TestCheckTypesOfInstructions(t *testing.T) {
	types := []api.TypeDef{def("A", 0), def("V", valueFlags)}
	for _, op := range []int{api.OLdobj, api.OStobj, api.OInitobj, api.ONewarr, api.OLdelem, api.OStelem, api.OLdelema, api.OBox, api.OUnbox, api.OUnboxany, api.OCastclass, api.OIsinst, api.ONewdel} {
		for _, x := range []api.Type{objectType(1), valueType(0)} {
			g := with(types, method("f", 0, 0))
			g.Methods[0].Code = []api.Instr{{Op: op, T: num}, {Op: op, T: x}, {Op: api.ORet}}
			wantFieldsWell(t, g)
			wantCheck(t, fmt.Sprint(op, x), g, ofM(0), api.ErrType)
			g.Methods[0].Code[1].T = arrayOf(valueType(1), 2)
			wantCheck(t, fmt.Sprint(op), g, api.Spot{}, api.OK)
		}
	}
}

// P13.1: methods with MAbstract name types, too.
func TestCheckTypesOfAbstract(t *testing.T) {
	types := []api.TypeDef{def("A", api.FAbstract), def("V", valueFlags), def("I", faceFlags), def("D", delegateFlags)}
	for _, owner := range []int{0, 2, 3} {
		for _, x := range mayNot() {
			g := with(types, method("f", owner, abstract, num, x))
			if owner != 3 {
				g = with(types, method("f", owner, abstract, num, x), method("invoke", 3, abstract))
			}
			wantCheck(t, fmt.Sprint(owner, x), g, ofM(0), api.ErrType)
			g.Methods[0].Params, g.Methods[0].Ret = nil, x
			wantCheck(t, fmt.Sprint(owner, x), g, ofM(0), api.ErrType)
		}
	}
}

// P13.1: of two methods that aren't well the first is told, of one method points 1 and 2 ahead of 3.
func TestCheckMethodsInOrder(t *testing.T) {
	point1 := func(m *api.Method) { m.Flags |= api.MNew }
	point2 := func(m *api.Method) { *m = method(m.Name, m.Owner, abstract, m.Params...) }
	point3 := func(m *api.Method) { m.Params = []api.Type{objectType(1)} }
	types := []api.TypeDef{def("A", 0), def("V", valueFlags)}
	turns := []struct {
		turn func(m *api.Method)
		e    api.Errno
	}{{point1, api.ErrSlot}, {point2, api.ErrSlot}, {point3, api.ErrType}}
	for i, a := range turns {
		for k, b := range turns {
			g := with(types, method("e", 0, 0), method("f", 0, 0), method("g", 0, 0), method("h", 1, 0))
			a.turn(&g.Methods[1])
			b.turn(&g.Methods[2])
			wantFieldsWell(t, g)
			wantCheck(t, fmt.Sprint("two", i, k), g, ofM(1), a.e)
			if i == k {
				continue
			}
			g = with(types, method("e", 0, 0), method("f", 0, 0), method("g", 0, 0), method("h", 1, 0))
			b.turn(&g.Methods[1])
			a.turn(&g.Methods[1])
			wantFieldsWell(t, g)
			wantCheck(t, fmt.Sprint("one", i, k), g, ofM(1), api.ErrSlot)
		}
	}
}

// P13.1: a class without FAbstract has no slot whose method has MAbstract.
func TestCheckClassSlots(t *testing.T) {
	types := func(flags ...int) []api.TypeDef {
		l := []api.TypeDef{def("A", 0), sub("B", 0), sub("C", 1)}
		for k := range l {
			l[k].Flags = flags[k]
		}
		return l
	}
	const a = api.FAbstract
	for _, c := range []struct {
		name  string
		g     api.Image
		s     api.Spot
		e     api.Errno
		table int
	}{
		{"of what it extends", with(types(a, 0, a), method("f", 0, abstract)), ofT(1), api.ErrName, 1},
		{"of two", with(types(a, 0, 0), method("f", 0, abstract)), ofT(1), api.ErrName, 1},
		{"far up", with(types(a, a, 0), method("f", 0, abstract)), ofT(2), api.ErrName, 1},
		{"nobody without FAbstract", with(types(a, a, a), method("f", 0, abstract)), api.Spot{}, api.OK, 1},
		{"put over", with(types(a, 0, 0), method("f", 0, abstract), method("f", 1, virtual)), api.Spot{}, api.OK, 1},
		{"put over below", with(types(a, a, 0), method("f", 0, abstract), method("f", 2, virtual)), api.Spot{}, api.OK, 1},
		{"put over too late", with(types(a, 0, 0), method("f", 0, abstract), method("f", 2, virtual)), ofT(1), api.ErrName, 1},
		{"not put over, but anew", with(types(a, 0, 0), method("f", 0, abstract), method("f", 1, anew)), ofT(1), api.ErrName, 2},
		{"not put over, as it isn't virtual", with(types(a, 0, 0), method("f", 0, abstract), method("f", 1, 0)), ofT(1), api.ErrName, 1},
		{"not put over, as it is another one", with(types(a, 0, 0), method("f", 0, abstract), method("f", 1, virtual, num)), ofT(1), api.ErrName, 2},
		{"put over by one with MAbstract", with(types(0, a, 0), method("f", 0, virtual), method("f", 1, abstract)), ofT(2), api.ErrName, 1},
		{"that, put over again", with(types(0, a, 0), method("f", 0, virtual), method("f", 1, abstract), method("f", 2, virtual)), api.Spot{}, api.OK, 1},
		{"one of two put over", with(types(a, 0, 0), method("f", 0, abstract), method("g", 0, abstract), method("f", 1, virtual)), ofT(1), api.ErrName, 2},
		{"the other one of two", with(types(a, 0, 0), method("f", 0, abstract), method("g", 0, abstract), method("g", 1, virtual)), ofT(1), api.ErrName, 2},
		{"both of two", with(types(a, a, 0), method("f", 0, abstract), method("g", 0, abstract), method("g", 1, virtual), method("f", 2, virtual)), api.Spot{}, api.OK, 2},
		// A slot that was begun anew is put over no more: the first one's is taken.
		{"the first of two alike", with(types(a, a, 0), method("f", 0, virtual), method("f", 1, abstract|anew), method("f", 2, virtual)), ofT(2), api.ErrName, 2},
		{"the first of two alike, with MAbstract", with(types(a, a, 0), method("f", 0, abstract), method("f", 1, anew), method("f", 2, virtual)), api.Spot{}, api.OK, 2},
	} {
		wantCheck(t, c.name, c.g, c.s, c.e)
		if l := Table(c.g, 2); len(l) != c.table {
			t.Error(c.name, l)
		}
	}
}

// P13.1: each method of each interface of a class without FAbstract is done for it.
func TestCheckInterfaces(t *testing.T) {
	const i, j, a, b, c = 0, 1, 2, 3, 4
	types := func(flags, own int, faces ...int) []api.TypeDef {
		l := []api.TypeDef{def("I", faceFlags), def("J", faceFlags, i), def("A", flags), sub("B", a), sub("C", b)}
		l[own].Faces = faces
		return l
	}
	f, g := method("f", i, abstract), answers(long, "g", j, abstract, num)
	for _, x := range []struct {
		name string
		g    api.Image
		s    api.Spot
		e    api.Errno
	}{
		{"nobody has it", with(types(0, a), f, g), api.Spot{}, api.OK},
		{"nothing does", with(types(0, b, i), f), ofT(b), api.ErrName},
		{"without methods", with(types(0, b, i)), api.Spot{}, api.OK},
		{"by itself", with(types(0, b, i), f, method("f", b, virtual)), api.Spot{}, api.OK},
		{"by itself, anew", with(types(0, b, i), f, method("f", b, anew)), api.Spot{}, api.OK},
		{"by what it extends", with(types(0, b, i), f, method("f", a, virtual)), api.Spot{}, api.OK},
		{"too late", with(types(0, b, i), f, method("f", c, virtual)), ofT(b), api.ErrName},
		{"of what it extends", with(types(0, a, i), f, method("f", b, virtual)), ofT(a), api.ErrName},
		{"of what has FAbstract", with(types(api.FAbstract, a, i), f, method("f", b, virtual)), api.Spot{}, api.OK},
		{"of what has FAbstract, done nowhere", with(types(api.FAbstract, a, i), f), ofT(b), api.ErrName},
		{"of what has FAbstract, done too late", with(types(api.FAbstract, a, i), f, method("f", c, virtual)), ofT(b), api.ErrName},
		{"by one with MAbstract", with(types(api.FAbstract, b, i), f, method("f", a, abstract)), ofT(b), api.ErrName},
		{"by one with MAbstract, put over", with(types(api.FAbstract, b, i), f, method("f", a, abstract), method("f", b, virtual)), api.Spot{}, api.OK},
		{"of one that has FAbstract, by one with MAbstract", with(types(api.FAbstract, a, i), f, method("f", a, abstract), method("f", b, virtual)), api.Spot{}, api.OK},
		{"by one that isn't virtual", with(types(0, b, i), f, method("f", b, 0)), ofT(b), api.ErrName},
		{"by a static one", with(types(0, b, i), f, method("f", b, static)), ofT(b), api.ErrName},
		{"by a ctor", with(types(0, b, i), f, method("f", b, ctor)), ofT(b), api.ErrName},
		{"by one that isn't virtual, and what it extends", with(types(0, b, i), f, method("f", a, virtual), method("f", b, 0)), api.Spot{}, api.OK},
		{"by another name", with(types(0, b, i), f, method("g", b, virtual)), ofT(b), api.ErrName},
		{"with other parameters", with(types(0, b, i), f, method("f", b, virtual, num)), ofT(b), api.ErrName},
		{"with another answer", with(types(0, b, i), f, answers(num, "f", b, virtual)), ofT(b), api.ErrName},
		{"an interface's interface", with(types(0, b, j), f, method("f", b, virtual)), api.Spot{}, api.OK},
		{"an interface's interface, done nowhere", with(types(0, b, j), f), ofT(b), api.ErrName},
		{"both, one done", with(types(0, b, j), f, g, method("f", b, virtual)), ofT(b), api.ErrName},
		{"both, the other one done", with(types(0, b, j), f, g, answers(long, "g", b, virtual, num)), ofT(b), api.ErrName},
		{"both done", with(types(0, b, j), f, g, method("f", a, virtual), answers(long, "g", b, virtual, num)), api.Spot{}, api.OK},
		{"two of one", with(types(0, b, i), f, method("g", i, abstract), method("f", b, virtual)), ofT(b), api.ErrName},
		{"two of one done", with(types(0, b, i), f, method("g", i, abstract), method("g", a, virtual), method("f", b, virtual)), api.Spot{}, api.OK},
	} {
		wantCheck(t, x.name, x.g, x.s, x.e)
	}
	// What has FAbstract may leave its interfaces' methods to others, as those of its own.
	open := types(api.FAbstract, a, j)
	open[b].Flags, open[c].Flags = api.FAbstract, api.FAbstract
	wantCheck(t, "all of them open", with(open, f, g), api.Spot{}, api.OK)
}

// P13.1: of two classes that aren't well the first is told, and a class ahead of a delegate, that ahead of the entry.
func TestCheckClassesInOrder(t *testing.T) {
	types := []api.TypeDef{def("D", delegateFlags), def("A", 0, 3), def("B", 0, 3), def("I", faceFlags)}
	f, n := method("f", 3, abstract), method("n", 1, 0)
	g := with(types, n, f)
	g.Entry = 0
	wantCheck(t, "both", g, ofT(1), api.ErrName)
	g.Methods = []api.Method{n, method("f", 1, virtual), f}
	wantCheck(t, "the second", g, ofT(2), api.ErrName)
	g.Methods = []api.Method{n, method("f", 2, virtual), f}
	wantCheck(t, "the first", g, ofT(1), api.ErrName)
	g.Methods = []api.Method{n, method("f", 1, virtual), method("f", 2, virtual), f}
	wantCheck(t, "none", g, ofT(0), api.ErrSlot)
	g.Types = append(slices.Clone(types), def("E", delegateFlags))
	wantCheck(t, "two delegates", g, ofT(0), api.ErrSlot)
	g.Methods = append([]api.Method{method("invoke", 0, abstract)}, g.Methods...)
	g.Entry = 1
	wantCheck(t, "the second delegate", g, ofT(4), api.ErrSlot)
	g.Types = types
	wantCheck(t, "the entry", g, ofM(1), api.ErrFlow)
	g.Entry = -1
	wantCheck(t, "no entry", g, api.Spot{}, api.OK)
}

// P13.1: with which methods a run may begin.
func TestCheckEntry(t *testing.T) {
	types := []api.TypeDef{def("A", api.FAbstract), def("V", valueFlags)}
	for _, c := range []struct {
		name string
		m    api.Method
		ok   bool
	}{
		{"nothing", method("m", 0, static), true},
		{"an int", answers(num, "m", 0, static), true},
		{"a long", answers(long, "m", 0, static), true},
		{"of a value type", answers(long, "m", 1, static), true},
		{"an object", answers(object, "m", 0, static), false},
		{"an object of a class", answers(objectType(0), "m", 0, static), false},
		{"a fault", answers(faultType(0), "m", 0, static), false},
		{"a value", answers(valueType(1), "m", 0, static), false},
		{"an array", answers(arrayOf(num, 1), "m", 0, static), false},
		{"an array of longs", answers(arrayOf(long, 3), "m", 0, static), false},
		{"an array of objects", answers(arrayOf(object, 1), "m", 0, static), false},
		{"not static", method("m", 0, 0), false},
		{"not static, of a value type", method("m", 1, 0), false},
		{"virtual", method("m", 0, virtual), false},
		{"a ctor", method("m", 0, ctor), false},
		{"with MAbstract", method("m", 0, abstract), false},
		{"a parameter", method("m", 0, static, num), false},
		{"two parameters", answers(num, "m", 0, static, num, long), false},
		{"an address as a parameter", answers(num, "m", 0, static, refTo(num)), false},
		{"locals", api.Method{Name: "m", Flags: static, Ret: num, Locals: []api.Type{object}, Code: code(), Max: 3}, true},
	} {
		g := with(types, method("first", 0, 0), c.m)
		g.Entry = 1
		if c.ok {
			wantCheck(t, c.name, g, api.Spot{}, api.OK)
		} else {
			wantCheck(t, c.name, g, ofM(1), api.ErrFlow)
		}
		// Of no other method it is asked.
		g.Entry = -1
		wantCheck(t, c.name, g, api.Spot{}, api.OK)
		g.Methods[0] = method("first", 0, static)
		g.Entry = 0
		wantCheck(t, c.name, g, api.Spot{}, api.OK)
	}
}
