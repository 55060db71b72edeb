package image

import (
	"slices"
	"strings"
	"testing"

	"cattlegrid/api"
)

// turn is one thing of the rich image turned, and whether that is formed.
type turn struct {
	told   string
	formed bool
	change func(g *api.Image)
}

// wantTurns wants of each turn that it is formed and comes back, or isn't formed and is refused.
func wantTurns(t *testing.T, turns []turn) {
	t.Helper()
	for _, x := range turns {
		g := rich()
		x.change(&g)
		was := copyOf(g)
		if Formed(g) != x.formed {
			t.Errorf("%s: Formed isn't %v", x.told, x.formed)
			continue
		}
		if x.formed {
			wantBack(t, g)
		} else if b, e := Save(g); e != api.ErrArg || len(b) != 0 {
			t.Errorf("%s: Save: %d bytes, %v", x.told, len(b), e)
		}
		if !sameImage(g, was) {
			t.Errorf("%s: the image was changed", x.told)
		}
	}
}

// many is an image with so many types, fields and methods.
func many(types, fields, methods int) api.Image {
	return api.Image{
		Types:   slices.Repeat([]api.TypeDef{{Name: "T", Extends: -1}}, types),
		Fields:  slices.Repeat([]api.Field{{Name: "f", Type: num}}, fields),
		Methods: slices.Repeat([]api.Method{{Name: "m", Ret: void}}, methods),
		Entry:   -1,
	}
}

// P10.1: how many there may be of each.
func TestFormedHowMany(t *testing.T) {
	for _, x := range []struct {
		types, fields, methods int
		formed                 bool
	}{
		{0, 0, 0, true}, {1, 0, 0, true}, {32, 64, 64, true}, {1, 64, 64, true}, {32, 0, 0, true},
		{33, 0, 0, false}, {33, 64, 64, false}, {1, 65, 0, false}, {32, 65, 64, false}, {1, 0, 65, false}, {32, 64, 65, false}, {1000, 1000, 1000, false},
		{0, 1, 0, false}, {0, 0, 1, false},
	} {
		g := many(x.types, x.fields, x.methods)
		if Formed(g) != x.formed {
			t.Errorf("%v: Formed isn't so", x)
		} else if x.formed {
			wantBack(t, g)
		} else if b, e := Save(g); e != api.ErrArg || len(b) != 0 {
			t.Errorf("%v: Save: %d bytes, %v", x, len(b), e)
		}
	}
}

// P10.1: names are names, of types, fields and methods.
func TestFormedNames(t *testing.T) {
	for _, x := range []struct {
		name   string
		formed bool
	}{
		{"a", true}, {"!", true}, {"~", true}, {strings.Repeat("x", 24), true},
		{"", false}, {strings.Repeat("x", 25), false}, {" ", false}, {"a b", false}, {"a\x7f", false}, {"\x00", false}, {"a\x00", false}, {"é", false}, {"a\n", false},
	} {
		wantTurns(t, []turn{
			{"type " + x.name, x.formed, func(g *api.Image) { g.Types[4].Name = x.name }},
			{"field " + x.name, x.formed, func(g *api.Image) { g.Fields[5].Name = x.name }},
			{"method " + x.name, x.formed, func(g *api.Image) { g.Methods[6].Name = x.name }},
		})
	}
}

// P10.1: the bounds of what types have.
func TestFormedTypes(t *testing.T) {
	flags := func(n int) func(g *api.Image) { return func(g *api.Image) { g.Types[4].Flags = n } }
	extends := func(n int) func(g *api.Image) { return func(g *api.Image) { g.Types[0].Extends = n } }
	faces := func(l ...int) func(g *api.Image) { return func(g *api.Image) { g.Types[4].Faces = l } }
	wantTurns(t, []turn{
		{"flags 0", true, flags(0)}, {"flags 31", true, flags(31)},
		{"flags 32", false, flags(32)}, {"flags -1", false, flags(-1)}, {"flags far", false, flags(1 << 62)},
		{"extends none", true, extends(-1)}, {"extends itself", true, extends(0)}, {"extends the last", true, extends(4)},
		{"extends -2", false, extends(-2)}, {"extends behind the last", false, extends(5)}, {"extends far", false, extends(-1 << 62)},
		{"no faces", true, faces()}, {"four faces", true, faces(0, 1, 3, 4)}, {"one face four times", true, faces(4, 4, 4, 4)},
		{"five faces", false, faces(0, 1, 2, 3, 4)}, {"a face behind the last", false, faces(0, 5)}, {"a face -1", false, faces(-1, 0)}, {"a last face of four", false, faces(0, 0, 0, 5)},
	})
}

// P10.1: owners don't fall, and are types' numbers.
func TestFormedOwners(t *testing.T) {
	fields := func(l ...int) func(g *api.Image) {
		return func(g *api.Image) {
			for i, n := range l {
				g.Fields[i].Owner = n
			}
		}
	}
	methods := func(l ...int) func(g *api.Image) {
		return func(g *api.Image) {
			for i, n := range l {
				g.Methods[i].Owner = n
			}
		}
	}
	wantTurns(t, []turn{
		{"fields of one", true, fields(2, 2, 2, 2, 2, 2)}, {"fields of the first", true, fields(0, 0, 0, 0, 0, 0)}, {"fields of the last", true, fields(4, 4, 4, 4, 4, 4)}, {"fields of all", true, fields(0, 1, 2, 3, 4, 4)},
		{"fields that fall", false, fields(0, 2, 1, 3, 4, 4)}, {"a last field that falls", false, fields(0, 1, 2, 3, 4, 3)}, {"a first field that is above", false, fields(2, 1)},
		{"a field of a type behind the last", false, fields(0, 1, 2, 3, 4, 5)}, {"a field of -1", false, fields(-1)}, {"fields of -1", false, fields(-1, -1, -1, -1, -1, -1)},
		{"methods of one", true, methods(2, 2, 2, 2, 2, 2, 2)}, {"methods of the first", true, methods(0, 0, 0, 0, 0, 0, 0)}, {"methods of the last", true, methods(4, 4, 4, 4, 4, 4, 4)}, {"methods of all", true, methods(0, 1, 2, 3, 4, 4, 4)},
		{"methods that fall", false, methods(0, 2, 1, 3, 4, 4, 4)}, {"a last method that falls", false, methods(0, 0, 1, 2, 3, 4, 3)}, {"a first method that is above", false, methods(2, 1)},
		{"a method of a type behind the last", false, methods(0, 1, 2, 3, 4, 4, 5)}, {"a method of -1", false, methods(-1)}, {"methods of -1", false, methods(-1, -1, -1, -1, -1, -1, -1)},
	})
}

// standing is a type, and where it may stand: as what is answered, as a parameter or a local, as a field's or what is caught or an operand.
type standing struct {
	t                      api.Type
	answer, variable, deep bool
}

// P10.1: types may stand where they do, and their numbers are types'.
func TestFormedTypesOfThings(t *testing.T) {
	l := []standing{
		{void, true, false, false}, {refTo(void), false, false, false}, {arrayOf(void, 1), false, false, false}, {api.Type{Kind: api.TVoid, Index: 1}, false, false, false},
		{num, true, true, true}, {long, true, true, true}, {object, true, true, true}, {arrayOf(long, 3), true, true, true}, {arrayOf(object, 4), false, false, false}, {arrayOf(num, -1), false, false, false},
		{refTo(num), false, true, false}, {refTo(arrayOf(class(4), 3)), false, true, false},
		{class(0), true, true, true}, {class(4), true, true, true}, {class(5), false, false, false}, {class(-1), false, false, false}, {class(31), false, false, false}, {refTo(class(5)), false, false, false},
		{value(0), true, true, true}, {value(4), true, true, true}, {value(5), false, false, false}, {arrayOf(value(5), 1), false, false, false}, {value(32), false, false, false},
		{fault(0), true, true, true}, {fault(7), true, true, true}, {fault(8), false, false, false}, {fault(-1), false, false, false}, {refTo(fault(7)), false, true, false},
		{api.Type{}, false, false, false}, {api.Type{Kind: api.TNull}, false, false, false}, {api.Type{Kind: api.TFunc}, false, false, false}, {api.Type{Kind: 10}, false, false, false}, {api.Type{Kind: -1}, false, false, false},
		{api.Type{Kind: api.TInt, Index: 1}, false, false, false}, {api.Type{Index: 1}, false, false, false},
	}
	for _, x := range l {
		wantTurns(t, []turn{
			{"answer", x.answer, func(g *api.Image) { g.Methods[2].Ret = x.t }},
			{"parameter", x.variable, func(g *api.Image) { g.Methods[1].Params[5] = x.t }},
			{"local", x.variable, func(g *api.Image) { g.Methods[3].Locals[1] = x.t }},
			{"field", x.deep, func(g *api.Image) { g.Fields[5].Type = x.t }},
			{"operand", x.deep, func(g *api.Image) { g.Methods[5].Code[12].T = x.t }},
			{"caught", x.deep, func(g *api.Image) { g.Methods[2].Clauses[4].T = x.t }},
		})
	}
}

// P10.1: the bounds of what methods have.
func TestFormedMethods(t *testing.T) {
	flags := func(n int) func(g *api.Image) { return func(g *api.Image) { g.Methods[6].Flags = n } }
	most := func(n int) func(g *api.Image) { return func(g *api.Image) { g.Methods[6].Max = n } }
	params := func(n int) func(g *api.Image) {
		return func(g *api.Image) { g.Methods[6].Params = slices.Repeat([]api.Type{long}, n) }
	}
	locals := func(n int) func(g *api.Image) {
		return func(g *api.Image) { g.Methods[6].Locals = slices.Repeat([]api.Type{long}, n) }
	}
	length := func(n int) func(g *api.Image) {
		return func(g *api.Image) { g.Methods[6].Code = slices.Repeat([]api.Instr{{Op: api.OPop}}, n) }
	}
	wantTurns(t, []turn{
		{"flags 0", true, flags(0)}, {"flags 31", true, flags(31)},
		{"flags 32", false, flags(32)}, {"flags -1", false, flags(-1)}, {"flags far", false, flags(1<<62 + 1)},
		{"Max 0", true, most(0)}, {"Max 12", true, most(12)},
		{"Max 13", false, most(13)}, {"Max -1", false, most(-1)}, {"Max far", false, most(1 << 16)},
		{"no parameters", true, params(0)}, {"6 parameters", true, params(6)}, {"7 parameters", false, params(7)}, {"many parameters", false, params(1000)},
		{"no locals", true, locals(0)}, {"12 locals", true, locals(12)}, {"13 locals", false, locals(13)}, {"many locals", false, locals(1000)},
		{"no code", true, length(0)}, {"1 instruction", true, length(1)}, {"160 instructions", true, length(160)}, {"161 instructions", false, length(161)}, {"many instructions", false, length(1000)},
	})
}

// P10.1: operands fit, and are the image's.
func TestFormedOperands(t *testing.T) {
	// The method's code has 13 instructions; there are 7 methods, 6 fields and 5 types.
	last := func(op int, arg int64) func(g *api.Image) {
		return func(g *api.Image) { g.Methods[5].Code[12] = api.Instr{Op: op, Arg: arg} }
	}
	first := func(op int, arg int64) func(g *api.Image) {
		return func(g *api.Image) { g.Methods[5].Code[0] = api.Instr{Op: op, Arg: arg} }
	}
	for _, op := range []int{api.OBr, api.OBrtrue, api.OBne, api.OLeave} {
		wantTurns(t, []turn{{"place 0", true, last(op, 0)}, {"place 12", true, first(op, 12)}, {"place 13", false, last(op, 13)}, {"place 13", false, first(op, 13)}, {"place -1", false, last(op, -1)}, {"place 159", false, last(op, 159)}, {"place 160", false, last(op, 160)}})
	}
	for _, op := range []int{api.OCall, api.OCallvirt, api.ONewobj, api.OLdftn} {
		wantTurns(t, []turn{{"method 0", true, last(op, 0)}, {"method 6", true, first(op, 6)}, {"method 7", false, last(op, 7)}, {"method 63", false, last(op, 63)}, {"method -1", false, first(op, -1)}, {"method far", false, last(op, 1<<32)}})
	}
	for _, op := range []int{api.OLdfld, api.OStsfld, api.OLdsflda} {
		wantTurns(t, []turn{{"field 0", true, last(op, 0)}, {"field 5", true, first(op, 5)}, {"field 6", false, last(op, 6)}, {"field 63", false, last(op, 63)}, {"field -1", false, first(op, -1)}, {"field far", false, last(op, 1<<32)}})
	}
	wantTurns(t, []turn{
		{"local 0", true, last(api.OLdloc, 0)}, {"local 11, though the method has none", true, last(api.OStloc, 11)}, {"local 12", false, last(api.OLdloca, 12)}, {"local -1", false, last(api.OLdloc, -1)},
		{"argument 0", true, last(api.OLdarg, 0)}, {"argument 6, though the method has none", true, last(api.OStarg, 6)}, {"argument 7", false, last(api.OLdarga, 7)}, {"argument -1", false, last(api.OLdarg, -1)},
		{"number 2147483647", true, last(api.OLdc4, 2147483647)}, {"number 2147483648", false, last(api.OLdc4, 2147483648)}, {"number -2147483649", false, last(api.OLdc4, -2147483649)},
		{"long -1", true, last(api.OLdc8, -1)}, {"the greatest long", true, last(api.OLdc8, 1<<63-1)},
		{"nop with a number", false, last(api.ONop, 1)}, {"no Op", false, last(0, 0)}, {"Op 76", false, last(76, 0)}, {"Op -1", false, first(-1, 0)},
		{"a number with a type", false, func(g *api.Image) { g.Methods[5].Code[3].T = num }},
		{"a type with a number", false, func(g *api.Image) { g.Methods[5].Code[12].Arg = 1 }},
	})
}

// P10.1: a place is below its own method's length, a method's below how many there are, whichever method names it.
func TestFormedOperandsElsewhere(t *testing.T) {
	wantTurns(t, []turn{
		{"a place of another method", false, func(g *api.Image) { g.Methods[0].Code[4] = api.Instr{Op: api.OBr, Arg: 5} }},
		{"a place of this method", true, func(g *api.Image) { g.Methods[0].Code[4] = api.Instr{Op: api.OBr, Arg: 4} }},
		{"a field where there is none", false, func(g *api.Image) { g.Fields = nil }},
		{"fewer types", false, func(g *api.Image) { g.Types = g.Types[:4] }},
		{"fewer methods", false, func(g *api.Image) { g.Methods = g.Methods[:5] }},
	})
}

// P10.1: clauses are right, and T is a field's type where one catches, and zero where it doesn't.
func TestFormedClauses(t *testing.T) {
	clause := func(i int, change func(c *api.Clause)) func(g *api.Image) {
		return func(g *api.Image) { change(&g.Methods[2].Clauses[i]) }
	}
	count := func(n int) func(g *api.Image) {
		return func(g *api.Image) {
			g.Methods[2].Clauses = nil
			for i := range n {
				g.Methods[2].Clauses = append(g.Methods[2].Clauses, api.Clause{Kind: api.CFault, TryFrom: 2 * i, TryTo: 2*i + 1, HandFrom: 2*i + 1, HandTo: 2*i + 2, Filter: -1})
			}
		}
	}
	turns := []turn{
		{"no clauses", true, count(0)}, {"6 clauses", true, count(6)}, {"7 clauses", false, count(7)},
		{"kind 0", false, clause(0, func(c *api.Clause) { c.Kind = 0 })}, {"kind 5", false, clause(0, func(c *api.Clause) { c.Kind = 5 })},
		{"fault to finally", true, clause(0, func(c *api.Clause) { c.Kind = api.CFinally })},
		{"up to the end", true, clause(4, func(c *api.Clause) { c.HandTo = 21 })}, {"behind the end", false, clause(4, func(c *api.Clause) { c.HandTo = 22 })},
		{"an empty part", false, clause(4, func(c *api.Clause) { c.TryTo = 0 })}, {"below 0", false, clause(4, func(c *api.Clause) { c.TryFrom = -1 })},
		{"a filter behind", false, clause(1, func(c *api.Clause) { c.Filter = 8 })}, {"no filter", false, clause(1, func(c *api.Clause) { c.Filter = -1 })}, {"a filter of none", false, clause(4, func(c *api.Clause) { c.Filter = 0 })},
		{"regions that share", false, clause(4, func(c *api.Clause) { c.HandFrom = 12 })},
		{"clauses that don't fit", false, func(g *api.Image) { l := g.Methods[2].Clauses; l[0], l[3] = l[3], l[0] }},
		{"clauses without code", false, func(g *api.Image) { g.Methods[2].Code = nil }},
		{"clauses of no code", false, func(g *api.Image) {
			g.Methods[1].Clauses = []api.Clause{{Kind: api.CFault, TryTo: 1, HandFrom: 1, HandTo: 2, Filter: -1}}
		}},
		{"nothing caught", false, clause(4, func(c *api.Clause) { c.T = api.Type{} })},
	}
	for i := range 2 {
		turns = append(turns, turn{"int of one that doesn't catch", false, clause(i, func(c *api.Clause) { c.T = num })})
	}
	for _, x := range []api.Type{void, {Dims: 1}, {Index: 1}, {Ref: true}, object} {
		turns = append(turns, turn{"T of finally", false, clause(3, func(c *api.Clause) { c.T = x })})
	}
	wantTurns(t, turns)
}

// P10.1: Entry is -1 or a method's number.
func TestFormedEntry(t *testing.T) {
	entry := func(n int) func(g *api.Image) { return func(g *api.Image) { g.Entry = n } }
	wantTurns(t, []turn{{"-1", true, entry(-1)}, {"0", true, entry(0)}, {"the last", true, entry(6)}, {"-2", false, entry(-2)}, {"behind the last", false, entry(7)}, {"far", false, entry(-1 << 63)}})
	g := nothing()
	g.Entry = 0
	if Formed(g) || Formed(api.Image{}) {
		t.Error("an image without methods begins with none")
	}
}

// P10.1: what is wrong at the very end is found as well as at the beginning.
func TestFormedEverywhere(t *testing.T) {
	g := many(32, 64, 64)
	for i := range g.Types {
		h := copyOf(g)
		if h.Types[i].Flags = 32; Formed(h) {
			t.Error("type", i)
		}
	}
	for i := range g.Fields {
		h := copyOf(g)
		if h.Fields[i].Type = void; Formed(h) {
			t.Error("field", i)
		}
		h = copyOf(g)
		if h.Methods[i].Max = -1; Formed(h) {
			t.Error("method", i)
		}
	}
}

// R3: nil and empty lists are one.
func TestFormedEmptyLists(t *testing.T) {
	g, h := many(1, 0, 1), many(1, 0, 1)
	h.Fields = []api.Field{}
	h.Types[0].Faces = []int{}
	h.Methods[0].Params, h.Methods[0].Locals, h.Methods[0].Code, h.Methods[0].Clauses = []api.Type{}, []api.Type{}, []api.Instr{}, []api.Clause{}
	if b, c := wantBack(t, g), wantBack(t, h); string(b) != string(c) {
		t.Error("empty lists aren't saved as none")
	}
}
