package slots

import (
	"fmt"
	"math"
	"math/rand"
	"slices"
	"testing"

	"cattlegrid/api"
	"cattlegrid/layout"
)

// model tells of an image whose fields are well which slot each method has, by what the slots of each class are called.
type model struct {
	g    api.Image
	keys map[int][]string // of each class what its slots' methods are alike in
	slot map[int]int      // of each class's virtual method its slot
}

// keyOf is the same text of methods that are alike, and of no others.
func keyOf(m api.Method) string {
	return fmt.Sprintf("%s %v %v %d", m.Name, m.Params, m.Ret, m.Flags&api.MStatic)
}

func modelOf(g api.Image) model {
	x := model{g, map[int][]string{}, map[int]int{}}
	for t := range g.Types {
		x.look(t)
	}
	return x
}

func (x model) isClass(t int) bool {
	return t >= 0 && t < len(x.g.Types) && x.g.Types[t].Flags&(api.FFace|api.FValue|api.FDelegate) == 0
}

// look gives a class's virtual methods their slots, behind those of what it extends.
func (x model) look(t int) {
	if _, ok := x.keys[t]; ok || !x.isClass(t) {
		return
	}
	base := x.g.Types[t].Extends
	x.look(base)
	keys := slices.Clone(x.keys[base])
	for m, d := range x.g.Methods {
		if d.Owner != t || d.Flags&api.MVirtual == 0 {
			continue
		}
		at := slices.Index(keys, keyOf(d))
		if at < 0 || d.Flags&api.MNew != 0 {
			at = len(keys)
			keys = append(keys, keyOf(d))
		}
		x.slot[m] = at
	}
	x.keys[t] = keys
}

// up is a class and what it extends.
func (x model) up(t int) []int {
	var l []int
	for ; t >= 0; t = x.g.Types[t].Extends {
		l = append(l, t)
	}
	return l
}

// in is the method that stands in a class's slot: the nearest one, going up, that has it.
func (x model) in(t, slot int) int {
	for _, u := range x.up(t) {
		for m, d := range x.g.Methods {
			if at, ok := x.slot[m]; ok && d.Owner == u && at == slot {
				return m
			}
		}
	}
	return -1
}

func (x model) table(t int) []int {
	var l []int
	for k := range x.keys[t] {
		l = append(l, x.in(t, k))
	}
	return l
}

// faces are the interfaces of a class, by going on until nothing is added.
func (x model) faces(t int) []int {
	has := map[int]bool{}
	for _, u := range x.up(t) {
		for _, f := range x.g.Types[u].Faces {
			has[f] = true
		}
	}
	for range x.g.Types {
		for f := range x.g.Types {
			if has[f] {
				for _, k := range x.g.Types[f].Faces {
					has[k] = true
				}
			}
		}
	}
	var l []int
	for f := range x.g.Types {
		if has[f] {
			l = append(l, f)
		}
	}
	return l
}

func (x model) find(t, m int) int {
	if m < 0 || m >= len(x.g.Methods) || !x.isClass(t) {
		return -1
	}
	d := x.g.Methods[m]
	if !slices.Contains(x.up(t), d.Owner) && !slices.Contains(x.faces(t), d.Owner) {
		return -1
	}
	if d.Flags&api.MVirtual == 0 {
		return m
	}
	if x.isClass(d.Owner) {
		return x.in(t, x.slot[m])
	}
	for _, u := range x.up(t) {
		for k, own := range x.g.Methods {
			if own.Owner == u && own.Flags&api.MVirtual != 0 && keyOf(own) == keyOf(d) {
				return x.in(t, x.slot[k])
			}
		}
	}
	return -1
}

// modelMethod tells what is wrong with a method, by a table of the flags that may be.
func (x model) modelMethod(d api.Method) api.Errno {
	may := []int{0, static, virtual, anew, ctor, abstract, abstract | anew}
	flags, others := x.g.Types[d.Owner].Flags, 0
	for _, m := range x.g.Methods {
		if m.Owner == d.Owner {
			others++
		}
	}
	switch {
	case flags == faceFlags || flags == delegateFlags && others == 1:
		may = may[5:]
	case flags == delegateFlags:
		may = nil
	case flags == valueFlags:
		may = may[:2]
	case flags&api.FAbstract == 0:
		may = may[:5]
	}
	empty := len(d.Code) == 0
	if !slices.Contains(may, d.Flags) || d.Flags == ctor && d.Ret != void || empty != (d.Flags&api.MAbstract != 0) || empty && (d.Locals != nil || d.Max != 0) {
		return api.ErrSlot
	}
	types := append(slices.Concat(d.Params, d.Locals), d.Ret)
	for _, i := range d.Code {
		if i.T.Kind != api.TNone {
			types = append(types, i.T)
		}
	}
	for _, c := range d.Clauses {
		if c.T.Kind != api.TNone {
			types = append(types, c.T)
		}
	}
	for _, k := range types {
		isValue := k.Kind == api.TValue
		if (isValue || k.Kind == api.TClass) && (x.g.Types[k.Index].Flags == valueFlags) != isValue {
			return api.ErrType
		}
	}
	return api.OK
}

func (x model) check() (api.Spot, api.Errno) {
	for m, d := range x.g.Methods {
		if e := x.modelMethod(d); e != api.OK {
			return ofM(m), e
		}
	}
	for t, d := range x.g.Types {
		if !x.isClass(t) || d.Flags&api.FAbstract != 0 {
			continue
		}
		calls := x.table(t)
		for m, d := range x.g.Methods {
			if slices.Contains(x.faces(t), d.Owner) {
				calls = append(calls, x.find(t, m))
			}
		}
		for _, k := range calls {
			if k < 0 || x.g.Methods[k].Flags&api.MAbstract != 0 {
				return ofT(t), api.ErrName
			}
		}
	}
	for t, d := range x.g.Types {
		if d.Flags == delegateFlags && !slices.ContainsFunc(x.g.Methods, func(m api.Method) bool { return m.Owner == t }) {
			return ofT(t), api.ErrSlot
		}
	}
	if k := x.g.Entry; k >= 0 {
		m := x.g.Methods[k]
		if m.Flags&(api.MStatic|api.MAbstract) != api.MStatic || m.Params != nil || !slices.Contains([]api.Type{void, num, long}, m.Ret) {
			return ofM(k), api.ErrFlow
		}
	}
	return api.Spot{}, api.OK
}

// randomTypes are types that mostly hang together well: what leads from one to another leads to one that stands ahead, in an order by chance.
func randomTypes(r *rand.Rand) []api.TypeDef {
	n := 1 + r.Intn(7)
	kinds := []int{0, 0, 0, 0, api.FAbstract, api.FAbstract, api.FAbstract, valueFlags, faceFlags, faceFlags, delegateFlags}
	l := make([]api.TypeDef, n)
	for k := range l {
		l[k] = def(fmt.Sprint("T", k), kinds[r.Intn(len(kinds))])
	}
	order := r.Perm(n)
	for i, k := range order {
		for _, ahead := range order[:i] {
			switch flags := l[ahead].Flags; {
			case flags == faceFlags && len(l[k].Faces) < 4 && r.Intn(3) == 0:
				l[k].Faces = append(l[k].Faces, ahead)
			case flags&^api.FAbstract == 0 && l[k].Flags&^api.FAbstract == 0 && r.Intn(4) > 0:
				l[k].Extends = ahead
			}
		}
	}
	return l
}

// randomFlags are those of a method of a type of these flags, seldom wrong ones.
func randomFlags(r *rand.Rand, flags int) int {
	if r.Intn(150) == 0 {
		return r.Intn(32)
	}
	switch flags {
	case faceFlags, delegateFlags:
		return abstract
	case valueFlags:
		return r.Intn(2) * static
	}
	few := []int{0, static, ctor, anew, anew, virtual, virtual, virtual, virtual, virtual, virtual, virtual}
	if flags&api.FAbstract != 0 {
		few = append(few, abstract, abstract, abstract|anew)
	}
	return few[r.Intn(len(few))]
}

// randomType is one that a method names, seldom one that isn't used well.
func randomType(r *rand.Rand, types []api.TypeDef) api.Type {
	k := r.Intn(len(types))
	switch {
	case r.Intn(4) > 0:
		return num
	case types[k].Flags == valueFlags != (r.Intn(40) == 0):
		return valueType(k)
	}
	return objectType(k)
}

func randomMethod(r *rand.Rand, types []api.TypeDef, owner int) api.Method {
	m := method([]string{"f", "g", "h"}[r.Intn(3)], owner, randomFlags(r, types[owner].Flags))
	for range r.Intn(5) / 4 {
		m.Params = append(m.Params, randomType(r, types))
	}
	if r.Intn(6) == 0 && m.Flags&api.MCtor == 0 || r.Intn(100) == 0 {
		m.Ret = randomType(r, types)
	}
	if r.Intn(150) == 0 {
		m.Code = nil
	}
	if len(m.Code) > 0 && r.Intn(3) == 0 {
		m.Locals = append(m.Locals, refTo(randomType(r, types)))
		m.Code[0] = api.Instr{Op: api.OInitobj, T: randomType(r, types)}
		m.Clauses = []api.Clause{catches(randomType(r, types))}
	}
	if len(m.Code) > 0 && r.Intn(3) == 0 || r.Intn(200) == 0 {
		m.Max = r.Intn(5)
	}
	return m
}

func randomImage(r *rand.Rand) api.Image {
	g := with(randomTypes(r))
	for t, d := range g.Types {
		n := r.Intn(5)
		if d.Flags == delegateFlags {
			n = min(n, 1+r.Intn(20)/19)
		}
		for range n {
			m := randomMethod(r, g.Types, t)
			same := func(k api.Method) bool { return k.Owner == t && keyOf(k) == keyOf(m) }
			if !slices.ContainsFunc(g.Methods, same) || r.Intn(50) == 0 {
				g.Methods = append(g.Methods, m)
			}
		}
	}
	if n := len(g.Methods); n > 0 && r.Intn(2) == 0 {
		g.Entry = r.Intn(n)
	}
	return g
}

// P13.1 to P13.3: images by a fixed seed, held against the model.
func TestModel(t *testing.T) {
	r := rand.New(rand.NewSource(13))
	told := map[string]int{}
	for range 6000 {
		g := randomImage(r)
		if _, e := layout.Check(g); e != api.OK {
			told["fields"]++
			wantCheck(t, "fields", g, api.Spot{}, api.ErrArg)
			continue
		}
		x := modelOf(g)
		s, e := x.check()
		told[fmt.Sprint(s.Kind, int(e))]++
		wantCheck(t, "model", g, s, e)
		wantModel(t, x)
		wantPromise(t, g)
		if t.Failed() {
			t.Fatal(g)
		}
	}
	for _, k := range []string{"fields", "0 0", "0 8", "0 18", "1 8", "1 10", "1 11"} {
		if told[k] < 100 {
			t.Error("told seldom:", k, told)
		}
	}
}

// wantModel holds all calls but Check against the model.
func wantModel(t *testing.T, x model) {
	t.Helper()
	for k := -1; k <= len(x.g.Types); k++ {
		var want []int
		if x.isClass(k) {
			want = x.table(k)
		}
		wantTable(t, x.g, k, want...)
		for m := -1; m <= len(x.g.Methods); m++ {
			wantFind(t, x.g, k, m, x.find(k, m))
		}
	}
	for m := -1; m <= len(x.g.Methods); m++ {
		want, ok := x.slot[m]
		if !ok {
			want = -1
		}
		if s := Slot(x.g, m); s != want {
			t.Error("slot", m, s, want)
		}
	}
}

// wantPromise looks at what is promised of all that is told: a table begins as that of what is extended, with methods alike; what is found has the same signature.
func wantPromise(t *testing.T, g api.Image) {
	t.Helper()
	for k, d := range g.Types {
		l := Table(g, k)
		if d.Extends >= 0 {
			base := Table(g, d.Extends)
			if len(l) < len(base) {
				t.Error("fewer slots", k, l, base)
			}
			for i := range base {
				if !Alike(g.Methods[l[i]], g.Methods[base[i]]) {
					t.Error("not alike", k, i, l, base)
				}
			}
		}
		for m := range g.Methods {
			if f := Find(g, k, m); f >= 0 && (!Alike(g.Methods[f], g.Methods[m]) || keyOf(g.Methods[f]) != keyOf(g.Methods[m])) {
				t.Error("found", k, m, f)
			}
		}
	}
}

// P13.3: of good's classes.
func TestPromise(t *testing.T) {
	wantPromise(t, good())
}

// wildImages are images that aren't formed, with numbers that are far from any.
func wildImages() []api.Image {
	wild := []int{math.MinInt, -2, -1, 0, 1, 2, 31, 32, 1 << 31, math.MaxInt}
	var l []api.Image
	for _, a := range wild {
		for _, b := range wild {
			g := with([]api.TypeDef{{Name: "A", Extends: a, Faces: []int{b}}, {Flags: b, Extends: b}, def("V", valueFlags), {Name: "B", Extends: 3}},
				api.Method{Name: "f", Owner: a, Flags: virtual, Params: []api.Type{{Kind: b}}},
				api.Method{Name: "f", Owner: 0, Flags: b, Ret: api.Type{Kind: a, Index: b}, Code: []api.Instr{{Op: a, Arg: int64(b), T: objectType(a)}}, Clauses: []api.Clause{{Kind: a, TryTo: b, T: valueType(b)}}},
				api.Method{Name: "f", Owner: 3, Flags: virtual, Locals: []api.Type{valueType(b)}, Max: a})
			g.Fields = []api.Field{{Owner: a, Type: valueType(b)}}
			g.Entry = a
			l = append(l, g)
		}
	}
	return append(l, api.Image{}, api.Image{Methods: make([]api.Method, 3)}, api.Image{Types: make([]api.TypeDef, 40), Fields: make([]api.Field, 70), Methods: make([]api.Method, 70)})
}

// R1: at images that aren't formed every call ends, and tells nothing.
func TestWild(t *testing.T) {
	far := []int{math.MinInt, -1, 0, 1, 2, 3, math.MaxInt}
	for _, g := range wildImages() {
		before := copyOf(g)
		wantCheck(t, "wild", g, api.Spot{}, api.ErrArg)
		for _, k := range far {
			if Table(g, k) != nil || Slot(g, k) != -1 {
				t.Error(k)
			}
			for _, m := range far {
				wantFind(t, g, k, m, -1)
			}
		}
		for _, a := range g.Methods {
			for _, b := range g.Methods {
				if Alike(a, b) != (keyOf(a) == keyOf(b)) {
					t.Error(a, b)
				}
			}
		}
		if !sameImage(g, before) {
			t.Error("changed", g)
		}
	}
}

// R1: an image as great as one may be is looked through in a short time, and classes 32 deep have their slots.
func TestGreat(t *testing.T) {
	var g api.Image
	g.Entry = -1
	for k := range api.MaxTypes {
		g.Types = append(g.Types, sub(fmt.Sprint("T", k), k-1))
		f, h := method("f", k, virtual), method("f", k, anew, num)
		for _, m := range []*api.Method{&f, &h} {
			m.Code = nil
			for i := range api.MaxCode {
				m.Code = append(m.Code, api.Instr{Op: api.OInitobj, T: arrayOf(objectType(i%api.MaxTypes), i%4)})
			}
		}
		g.Methods = append(g.Methods, f, h)
	}
	wantCheck(t, "great", g, api.Spot{}, api.OK)
	l := Table(g, 31)
	if len(l) != 33 || l[0] != 62 || l[1] != 1 || l[32] != 63 {
		t.Error(l)
	}
	wantFind(t, g, 31, 0, 62)
	wantFind(t, g, 31, 31, 31)
	if x := Slot(g, 63); x != 32 {
		t.Error(x)
	}
	g.Methods[63].Code[159].T = valueType(31)
	wantCheck(t, "great", g, ofM(63), api.ErrType)
}

// R4: what was handed in stays as it was, and what is handed back is the caller's own.
func TestFreshMemory(t *testing.T) {
	g := good()
	g.Types = append(make([]api.TypeDef, 0, 40), g.Types...)
	g.Methods = append(make([]api.Method, 0, 40), g.Methods...)
	spareTypes, spareMethods := g.Types[:40], g.Methods[:40]
	spareTypes[39], spareMethods[39] = def("spare", 7), method("spare", 7, 0)
	for m := range g.Methods {
		g.Methods[m].Params = append(make([]api.Type, 0, 9), g.Methods[m].Params...)
		g.Methods[m].Params[:9][8] = faultType(m)
	}
	before := copyOf(g)
	for _, k := range []int{top, middle, leaf, lone} {
		first := slices.Clone(Table(g, k))
		l := Table(g, k)
		l = l[:cap(l)]
		for i := range l {
			l[i] = -7
		}
		if again := Table(g, k); !slices.Equal(first, again) || len(first) == 0 {
			t.Error(k, first, again)
		}
	}
	Check(g)
	for m, x := range g.Methods {
		Slot(g, m)
		Find(g, leaf, m)
		for _, y := range g.Methods {
			Alike(x, y)
		}
		if x.Params[:9][8] != faultType(m) {
			t.Error("spare room", m)
		}
	}
	if !sameImage(g, before) || spareTypes[39].Name != "spare" || spareMethods[39].Name != "spare" {
		t.Error("changed")
	}
}
