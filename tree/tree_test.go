package tree

import (
	"fmt"
	"math"
	"math/rand"
	"slices"
	"testing"

	"cattlegrid/api"
	"cattlegrid/image"
)

// The flags with which types of each kind are well.
const (
	faceFlags     = api.FFace | api.FAbstract
	valueFlags    = api.FValue | api.FSealed
	delegateFlags = api.FDelegate | api.FSealed
)

// The types that fields and methods have in tests.
var (
	void   = api.Type{Kind: api.TVoid}
	num    = api.Type{Kind: api.TInt}
	long   = api.Type{Kind: api.TLong}
	object = api.Type{Kind: api.TObject}
)

func classOf(i int) api.Type { return api.Type{Kind: api.TClass, Index: i} }
func valueOf(i int) api.Type { return api.Type{Kind: api.TValue, Index: i} }

func arrayOf(t api.Type, dims int) api.Type {
	t.Dims = dims
	return t
}

func refTo(t api.Type) api.Type {
	t.Ref = true
	return t
}

// def is a type of that name, of these flags, that extends nothing.
func def(name string, flags int, faces ...int) api.TypeDef {
	return api.TypeDef{Name: name, Flags: flags, Extends: -1, Faces: faces}
}

// sub is a class of that name that extends another type.
func sub(name string, base int, faces ...int) api.TypeDef {
	return api.TypeDef{Name: name, Extends: base, Faces: faces}
}

func field(name string, owner int, t api.Type) api.Field {
	return api.Field{Name: name, Owner: owner, Type: t}
}

func static(name string, owner int, t api.Type) api.Field {
	return api.Field{Name: name, Owner: owner, Type: t, Static: true}
}

func method(name string, owner, flags int, ret api.Type, params ...api.Type) api.Method {
	return api.Method{Name: name, Owner: owner, Flags: flags, Ret: ret, Params: params}
}

func only(types ...api.TypeDef) api.Image {
	return api.Image{Types: types, Entry: -1}
}

// good is an image of types of all kinds that are all well: interfaces that meet again further up, classes that extend each other, value types that hold one another, names that come again where they may.
func good() api.Image {
	return api.Image{
		Types: []api.TypeDef{
			def("I", faceFlags),
			def("J", faceFlags, 0),
			def("K", faceFlags, 0),
			def("L", faceFlags, 2, 1),
			def("A", 0, 3),
			{Name: "B", Flags: api.FAbstract, Extends: 4, Faces: []int{1, 0}},
			{Name: "C", Flags: api.FSealed, Extends: 5},
			def("V", valueFlags, 0),
			def("W", valueFlags),
			def("D", delegateFlags, 2),
			def("E", 0),
		},
		Fields: []api.Field{
			static("f", 0, num), static("g", 0, num),
			field("f", 4, num), static("A", 4, valueOf(7)),
			field("f", 5, num),
			field("f", 7, valueOf(8)), field("g", 7, valueOf(8)), static("h", 7, valueOf(7)), field("i", 7, arrayOf(valueOf(7), 1)), field("j", 7, classOf(7)),
			field("f", 8, arrayOf(valueOf(7), 3)), static("g", 8, valueOf(7)), field("h", 8, object),
			field("v", 10, valueOf(7)), field("w", 10, valueOf(8)),
		},
		Methods: []api.Method{
			method("m", 0, api.MVirtual|api.MAbstract, num),
			method("m", 4, 0, num), method("m", 4, 0, long), method("m", 4, 0, num, num), method("m", 4, 0, num, long), method("m", 4, 0, num, num, num), method("m", 4, 0, num, refTo(num)), method("m", 4, api.MStatic, num), method("n", 4, 0, num),
			method("m", 5, 0, num),
			method("m", 9, api.MVirtual|api.MAbstract, num),
		},
		Entry: -1,
	}
}

// copyOf is g in memory of its own.
func copyOf(g api.Image) api.Image {
	g.Types, g.Fields, g.Methods = slices.Clone(g.Types), slices.Clone(g.Fields), slices.Clone(g.Methods)
	for i := range g.Types {
		g.Types[i].Faces = slices.Clone(g.Types[i].Faces)
	}
	for i := range g.Methods {
		g.Methods[i].Params = slices.Clone(g.Methods[i].Params)
	}
	return g
}

// sameImage holds the images of these tests against each other.
func sameImage(g, h api.Image) bool {
	return fmt.Sprint(g) == fmt.Sprint(h)
}

// table tells which type leads to which.
type table [][]bool

func newTable(n int) table {
	l := make(table, n)
	for i := range l {
		l[i] = make([]bool, n)
	}
	return l
}

// closed is the table of what is come to by one step or more.
func (x table) closed() table {
	for k := range x {
		for i := range x {
			for j := range x {
				x[i][j] = x[i][j] || x[i][k] && x[k][j]
			}
		}
	}
	return x
}

// model tells what the chapter's words say of a formed image, by tables of all pairs of types.
type model struct {
	g            api.Image
	kinds        []int
	faces, holds table
}

func modelOf(g api.Image) model {
	n := len(g.Types)
	m := model{g: g, faces: newTable(n), holds: newTable(n)}
	for _, d := range g.Types {
		m.kinds = append(m.kinds, modelKind(d.Flags))
	}
	for i, d := range g.Types {
		for _, f := range d.Faces {
			m.faces[i][f] = true
		}
	}
	for _, f := range g.Fields {
		if x := f.Type; !f.Static && x.Dims == 0 && x.Kind == api.TValue && m.kinds[f.Owner] == 1 && m.kinds[x.Index] == 1 {
			m.holds[f.Owner][x.Index] = true
		}
	}
	m.faces, m.holds = m.faces.closed(), m.holds.closed()
	return m
}

func modelKind(flags int) int {
	if flags%4 >= 2 {
		return 2
	}
	if flags%2 == 1 {
		return 1
	}
	if flags/16 == 1 {
		return 3
	}
	return 0
}

func (m model) up(t int) []int {
	var l []int
	for t >= 0 && !slices.Contains(l, t) {
		l = append(l, t)
		t = m.g.Types[t].Extends
	}
	return l
}

func (m model) facesOf(t int) []int {
	var l []int
	for f := range m.g.Types {
		if slices.ContainsFunc(m.up(t), func(u int) bool { return m.faces[u][f] }) {
			l = append(l, f)
		}
	}
	return l
}

func (m model) below(a, b int) bool {
	return slices.Contains(m.up(a), b) || slices.Contains(m.facesOf(a), b)
}

// flagged tells whether t's flags have all of the one, and none of the other.
func (m model) flagged(t, all, none int) bool {
	flags := m.g.Types[t].Flags
	return flags&all == all && flags&none == 0
}

// points tells of each of the five points whether it is so of t.
func (m model) points(t int) [5]bool {
	d, p := m.g.Types[t], [5]bool{true, true, true, true, true}
	switch m.kinds[t] {
	case 1:
		p[0] = m.flagged(t, 8, 4+16) && d.Extends == -1
	case 2:
		p[0] = m.flagged(t, 4, 1+8+16) && d.Extends == -1
	case 3:
		p[0] = m.flagged(t, 8, 4) && d.Extends == -1
	}
	if d.Extends >= 0 {
		p[1] = m.kinds[d.Extends] == 0 && m.flagged(d.Extends, 0, 8)
	}
	at := t
	for range len(m.g.Types) {
		if at >= 0 {
			at = m.g.Types[at].Extends
		}
	}
	p[1] = p[1] && at == -1
	for i, f := range d.Faces {
		p[2] = p[2] && m.kinds[f] == 2 && slices.Index(d.Faces, f) == i
	}
	p[2] = p[2] && !(m.kinds[t] == 2 && m.faces[t][t])
	p[3] = m.names(t)
	for _, f := range m.g.Fields {
		if f.Owner == t {
			p[4] = p[4] && m.kinds[t] != 3 && (m.kinds[t] != 2 || f.Static)
		}
	}
	p[4] = p[4] && !m.holds[t][t]
	return p
}

// names tells whether t's name, its fields' and its methods' are told apart.
func (m model) names(t int) bool {
	count := map[string]int{}
	for _, d := range m.g.Types {
		count["type "+d.Name]++
	}
	for _, f := range m.g.Fields {
		if f.Owner == t {
			count["field "+f.Name]++
		}
	}
	for _, x := range m.g.Methods {
		if x.Owner == t {
			count[fmt.Sprint("method ", x.Name, " ", x.Params, x.Ret, x.Flags%2)]++
		}
	}
	for what, n := range count {
		if n > 1 && (what[0] != 't' || what == "type "+m.g.Types[t].Name) {
			return false
		}
	}
	return true
}

// errors are what is wrong first with each type.
func (m model) errors() []api.Errno {
	var l []api.Errno
	for t := range m.g.Types {
		e := api.OK
		for i, x := range []api.Errno{api.ErrTree, api.ErrTree, api.ErrTree, api.ErrName, api.ErrSize} {
			if e == api.OK && !m.points(t)[i] {
				e = x
			}
		}
		l = append(l, e)
	}
	return l
}

func modelCheck(g api.Image) (int, api.Errno) {
	l := modelOf(g).errors()
	if i := slices.IndexFunc(l, func(e api.Errno) bool { return e != api.OK }); i >= 0 {
		return i, l[i]
	}
	return 0, api.OK
}

func isRising(l []int) bool {
	for i := range l {
		if i > 0 && l[i-1] >= l[i] {
			return false
		}
	}
	return true
}

// wantList wants a list of that call of image g.
func wantList(t *testing.T, g api.Image, told string, of int, got, want []int) {
	t.Helper()
	if !slices.Equal(got, want) {
		t.Errorf("%s of %d: %v, not %v: %+v", told, of, got, want, g)
	}
}

// wantAsModel wants all that is asked of g, a formed image, to be as the chapter's words have it.
func wantAsModel(t *testing.T, g api.Image) {
	t.Helper()
	if !image.Formed(g) {
		t.Fatalf("not formed: %+v", g)
	}
	was := copyOf(g)
	at, e := Check(g)
	if i, x := modelCheck(g); at != i || e != x {
		t.Errorf("Check: %d %v, not %d %v: %+v", at, e, i, x, g)
	}
	m := modelOf(g)
	for a := -1; a <= len(g.Types); a++ {
		wantTypeAsModel(t, m, a)
	}
	if !sameImage(g, was) {
		t.Errorf("the image was changed: %+v", g)
	}
}

func wantTypeAsModel(t *testing.T, m model, a int) {
	t.Helper()
	isType := func(x int) bool { return x >= 0 && x < len(m.g.Types) }
	kind, up, faces := -1, []int(nil), []int(nil)
	if isType(a) {
		kind, up, faces = m.kinds[a], m.up(a), m.facesOf(a)
	}
	if k := Kind(m.g, a); k != kind {
		t.Errorf("Kind of %d: %d, not %d: %+v", a, k, kind, m.g)
	}
	wantList(t, m.g, "Up", a, Up(m.g, a), up)
	wantList(t, m.g, "Faces", a, Faces(m.g, a), faces)
	for b := -1; b <= len(m.g.Types); b++ {
		if want := isType(a) && isType(b) && m.below(a, b); Below(m.g, a, b) != want {
			t.Errorf("Below of %d, %d isn't %v: %+v", a, b, want, m.g)
		}
	}
	var fields, methods []int
	for i, f := range m.g.Fields {
		if f.Owner == a {
			fields = append(fields, i)
		}
	}
	for i, x := range m.g.Methods {
		if x.Owner == a {
			methods = append(methods, i)
		}
	}
	wantList(t, m.g, "Fields", a, Fields(m.g, a), fields)
	wantList(t, m.g, "Methods", a, Methods(m.g, a), methods)
}

// wantOrder wants Below of g to be an order.
func wantOrder(t *testing.T, g api.Image) {
	t.Helper()
	n := len(g.Types)
	for a := range n {
		if !Below(g, a, a) {
			t.Errorf("%d isn't below itself: %+v", a, g)
		}
		for b := range n {
			if a != b && Below(g, a, b) && Below(g, b, a) {
				t.Errorf("%d and %d are below each other: %+v", a, b, g)
			}
			for c := range n {
				if Below(g, a, b) && Below(g, b, c) && !Below(g, a, c) {
					t.Errorf("%d is below %d, that below %d: %+v", a, b, c, g)
				}
			}
		}
	}
}

// P11.1: each flag by itself and together with the others, of each number.
func TestKind(t *testing.T) {
	want := map[int]int{0: 0, 1: 1, 2: 2, 3: 2, 4: 0, 8: 0, 12: 0, 16: 3, 17: 1, 18: 2, 19: 2, 20: 3, 24: 3, 28: 3, 29: 1, 30: 2, 31: 2, 13: 1, 14: 2, 15: 2, 5: 1, 6: 2, 7: 2, 9: 1, 10: 2, 11: 2, 21: 1, 22: 2, 23: 2, 25: 1, 26: 2, 27: 2}
	var all []api.TypeDef
	for flags := range 32 {
		all = append(all, def(fmt.Sprint("T", flags), flags))
		if k := Kind(only(def("T", flags)), 0); k != want[flags] {
			t.Errorf("flags %d: %d, not %d", flags, k, want[flags])
		}
	}
	g := only(all...)
	for flags := range 32 {
		if k := Kind(g, flags); k != want[flags] {
			t.Errorf("type %d: %d, not %d", flags, k, want[flags])
		}
	}
	for _, x := range []int{math.MinInt, -2, -1, 32, 33, math.MaxInt} {
		if k := Kind(g, x); k != -1 {
			t.Errorf("type %d: %d", x, k)
		}
	}
	for _, x := range []int{-1, 0, 1} {
		if k := Kind(only(), x); k != -1 {
			t.Errorf("type %d of none: %d", x, k)
		}
	}
}

// P11.2: of each type of good by hand.
func TestLists(t *testing.T) {
	g := good()
	for a, x := range []struct{ up, faces, fields, methods []int }{
		{[]int{0}, nil, []int{0, 1}, []int{0}},
		{[]int{1}, []int{0}, nil, nil},
		{[]int{2}, []int{0}, nil, nil},
		{[]int{3}, []int{0, 1, 2}, nil, nil},
		{[]int{4}, []int{0, 1, 2, 3}, []int{2, 3}, []int{1, 2, 3, 4, 5, 6, 7, 8}},
		{[]int{5, 4}, []int{0, 1, 2, 3}, []int{4}, []int{9}},
		{[]int{6, 5, 4}, []int{0, 1, 2, 3}, nil, nil},
		{[]int{7}, []int{0}, []int{5, 6, 7, 8, 9}, nil},
		{[]int{8}, nil, []int{10, 11, 12}, nil},
		{[]int{9}, []int{0, 2}, nil, []int{10}},
		{[]int{10}, nil, []int{13, 14}, nil},
	} {
		wantList(t, g, "Up", a, Up(g, a), x.up)
		wantList(t, g, "Faces", a, Faces(g, a), x.faces)
		wantList(t, g, "Fields", a, Fields(g, a), x.fields)
		wantList(t, g, "Methods", a, Methods(g, a), x.methods)
		for b := range g.Types {
			if want := slices.Contains(x.up, b) || slices.Contains(x.faces, b); Below(g, a, b) != want {
				t.Errorf("Below of %d, %d isn't %v", a, b, want)
			}
		}
	}
	wantAsModel(t, g)
	wantOrder(t, g)
}

// P11.2: of types that aren't there nothing is told, whatever is handed in beside them.
func TestTypesNotThere(t *testing.T) {
	wild := good()
	wild.Fields[0].Owner, wild.Fields[14].Owner, wild.Methods[0].Owner, wild.Methods[10].Owner = -1, 11, -1, 11
	for _, g := range []api.Image{good(), only(), {}, wild} {
		for _, a := range []int{math.MinInt, -2, -1, 11, 12, 32, math.MaxInt} {
			if l := slices.Concat(Up(g, a), Faces(g, a), Fields(g, a), Methods(g, a)); len(l) != 0 {
				t.Errorf("%d: %v", a, l)
			}
			for b := -2; b < 13; b++ {
				if Below(g, a, b) || Below(g, b, a) || Below(g, a, a) {
					t.Errorf("%d is below %d, or that below it", a, b)
				}
			}
		}
	}
}

// P11.2: types that extend each other, or aren't well otherwise: Up ends ahead of one that was told, and nothing else is asked of types than the words ask.
func TestListsOfWhatIsNotWell(t *testing.T) {
	for _, x := range []struct {
		told      string
		g         api.Image
		of        int
		up, faces []int
	}{
		{"itself", only(sub("A", 0)), 0, []int{0}, nil},
		{"two, the first", only(sub("A", 1), sub("B", 0)), 0, []int{0, 1}, nil},
		{"two, the last", only(sub("A", 1), sub("B", 0)), 1, []int{1, 0}, nil},
		{"three", only(sub("A", 1), sub("B", 2), sub("C", 0)), 1, []int{1, 2, 0}, nil},
		{"into two", only(sub("A", 2), sub("B", 2), sub("C", 1)), 0, []int{0, 2, 1}, nil},
		{"into itself", only(sub("A", 1), sub("B", 1)), 0, []int{0, 1}, nil},
		{"their faces", only(sub("A", 2, 3), def("I", faceFlags), sub("C", 0, 1), def("J", faceFlags)), 2, []int{2, 0}, []int{1, 3}},
		{"a value type that extends", only(def("A", 0, 2), api.TypeDef{Name: "V", Flags: valueFlags}, def("I", faceFlags)), 1, []int{1, 0}, []int{2}},
		{"an interface of itself", only(def("I", faceFlags, 0)), 0, []int{0}, []int{0}},
		{"an interface that comes to itself", only(def("I", faceFlags, 1), def("J", faceFlags, 0)), 0, []int{0}, []int{0, 1}},
		{"into what comes to itself", only(def("A", 0, 2), def("I", faceFlags, 2), def("J", faceFlags, 1)), 0, []int{0}, []int{1, 2}},
		{"a face twice", only(def("A", 0, 1, 1), def("I", faceFlags)), 0, []int{0}, []int{1}},
		{"a face of what is extended again", only(sub("A", 1, 2), def("B", 0, 2), def("I", faceFlags)), 0, []int{0, 1}, []int{2}},
		{"what an interface extends isn't gone to", only(def("A", 0, 1), api.TypeDef{Name: "I", Flags: faceFlags, Extends: 2}, def("B", 0, 3), def("J", faceFlags)), 0, []int{0}, []int{1}},
	} {
		if u, f := Up(x.g, x.of), Faces(x.g, x.of); !slices.Equal(u, x.up) || !slices.Equal(f, x.faces) {
			t.Errorf("%s: %v, %v", x.told, u, f)
		}
		wantAsModel(t, x.g)
	}
}

// P11.2: as many as there may be, of each kind of way.
func TestLongWays(t *testing.T) {
	var chain, ring, faces, wheel api.Image
	for _, g := range []*api.Image{&chain, &ring, &faces, &wheel} {
		g.Entry = -1
	}
	var all, rising []int
	for i := range 32 {
		name := fmt.Sprint("T", i)
		chain.Types = append(chain.Types, sub(name, i-1))
		ring.Types = append(ring.Types, sub(name, (i+1)%32))
		faces.Types = append(faces.Types, def(name, faceFlags))
		if i > 0 {
			faces.Types[i].Faces = []int{i - 1}
			rising = append(rising, i-1)
		}
		wheel.Types = append(wheel.Types, def(name, faceFlags, (i+1)%32, (i+5)%32))
		all = append(all, i)
	}
	down := slices.Clone(all)
	slices.Reverse(down)
	wantList(t, chain, "Up", 31, Up(chain, 31), down)
	wantList(t, ring, "Up", 0, Up(ring, 0), all)
	wantList(t, ring, "Up", 20, Up(ring, 20), append(slices.Clone(all[20:]), all[:20]...))
	wantList(t, faces, "Faces", 31, Faces(faces, 31), rising)
	wantList(t, wheel, "Faces", 7, Faces(wheel, 7), all)
	for _, g := range []api.Image{chain, ring, faces, wheel} {
		wantAsModel(t, g)
	}
	wantOrder(t, chain)
	wantOrder(t, faces)
}

// P11.2: fields and methods: none, one, several, and all that there may be.
func TestOwned(t *testing.T) {
	for _, owners := range [][]int{nil, {0}, {1}, {2}, {0, 0}, {0, 2}, {1, 1, 2}, {0, 0, 0, 1, 2, 2}, slices.Repeat([]int{1}, 64), append(slices.Repeat([]int{0}, 63), 2)} {
		g := only(def("A", 0), def("B", 0), def("C", 0))
		var want [3][]int
		for i, o := range owners {
			g.Fields = append(g.Fields, field(fmt.Sprint("f", i), o, num))
			g.Methods = append(g.Methods, method(fmt.Sprint("m", i), o, 0, void))
			want[o] = append(want[o], i)
		}
		for a := range want {
			wantList(t, g, "Fields", a, Fields(g, a), want[a])
			wantList(t, g, "Methods", a, Methods(g, a), want[a])
		}
		wantAsModel(t, g)
	}
}

// randomImage is a formed one; the greater tame is, the rarer are wild things in it.
func randomImage(r *rand.Rand, tame int) api.Image {
	isWild := func() bool { return r.Intn(tame) == 0 }
	n := 1 + r.Intn(8)
	g := api.Image{Entry: -1}
	for i := range n {
		d := api.TypeDef{Name: fmt.Sprint("T", i), Extends: -1, Flags: []int{0, 0, 4, 8, faceFlags, faceFlags, valueFlags, valueFlags, delegateFlags, valueFlags | 16*r.Intn(2)}[r.Intn(10)]}
		if isWild() {
			d.Flags = r.Intn(32)
		}
		if isWild() {
			d.Name = fmt.Sprint("T", r.Intn(n))
		}
		g.Types = append(g.Types, d)
	}
	pick := func(fits func(i int) bool) int {
		i := r.Intn(n)
		for range 9 {
			if !fits(i) && !isWild() {
				i = r.Intn(n)
			}
		}
		return i
	}
	for i := range g.Types {
		kind := modelKind(g.Types[i].Flags)
		base := pick(func(j int) bool { return j < i && modelKind(g.Types[j].Flags) == 0 && g.Types[j].Flags&8 == 0 })
		if ok := base < i && modelKind(g.Types[base].Flags) == 0 && g.Types[base].Flags&8 == 0; kind == 0 && ok && r.Intn(4) > 0 || isWild() {
			g.Types[i].Extends = base
		}
		for range r.Intn(5) {
			f := pick(func(j int) bool { return modelKind(g.Types[j].Flags) == 2 && (kind != 2 || j < i) })
			if modelKind(g.Types[f].Flags) == 2 && (kind != 2 || f < i) && !slices.Contains(g.Types[i].Faces, f) || isWild() {
				g.Types[i].Faces = append(g.Types[i].Faces, f)
			}
		}
	}
	for i := range g.Types {
		addRandomFields(r, &g, i, isWild)
		addRandomMethods(r, &g, i, isWild)
	}
	return g
}

func addRandomFields(r *rand.Rand, g *api.Image, owner int, isWild func() bool) {
	kind := modelKind(g.Types[owner].Flags)
	for i := range r.Intn(4) {
		f := field(fmt.Sprint("f", i), owner, num)
		if isWild() {
			f.Name = "f0"
		}
		x := r.Intn(len(g.Types))
		switch r.Intn(4) {
		case 0:
			if kind != 1 || x < owner || isWild() {
				f.Type = valueOf(x)
			}
		case 1:
			f.Type = arrayOf(valueOf(x), 1+r.Intn(3))
		case 2:
			f.Type = classOf(x)
		}
		f.Static = r.Intn(2) == 0 || kind == 2 && !isWild()
		if kind != 3 || isWild() {
			g.Fields = append(g.Fields, f)
		}
	}
}

func addRandomMethods(r *rand.Rand, g *api.Image, owner int, isWild func() bool) {
	types := []api.Type{num, long, refTo(num), arrayOf(num, 1), classOf(0)}
	for i := range r.Intn(4) {
		m := method(fmt.Sprint("m", i), owner, r.Intn(32), num)
		if r.Intn(4) == 0 {
			m.Name = "m0"
			m.Ret = []api.Type{num, long, void}[r.Intn(3)]
			for range r.Intn(3) {
				m.Params = append(m.Params, types[r.Intn(len(types))])
			}
		}
		if isWild() {
			m = method("m0", owner, r.Intn(2), num)
		}
		g.Methods = append(g.Methods, m)
	}
}

// P11.1 to P11.3: many images, held against the model.
func TestManyImages(t *testing.T) {
	r := rand.New(rand.NewSource(11))
	count := map[api.Errno]int{}
	steps := 0
	for i := range 12000 {
		g := randomImage(r, []int{2, 8, 30, 200}[i%4])
		wantAsModel(t, g)
		at, e := Check(g)
		count[e]++
		if e == api.OK && len(g.Types) > 3 {
			wantOrder(t, g)
			steps = max(steps, len(Faces(g, len(g.Types)-1))*len(Up(g, len(g.Types)-1)))
		}
		if at > 3 {
			count[-1]++
		}
		if t.Failed() {
			return
		}
	}
	for _, e := range []api.Errno{api.OK, api.ErrTree, api.ErrName, api.ErrSize, -1} {
		if count[e] < 200 {
			t.Errorf("too few of %d: %v", int(e), count)
		}
	}
	if steps < 6 {
		t.Error("too few ways up", steps)
	}
}

// P11.1 to P11.3: all images of three types of some flags, whatever they extend.
func TestEachExtends(t *testing.T) {
	flags := []int{0, api.FAbstract, api.FSealed, valueFlags, faceFlags, delegateFlags}
	for x := range 6 * 6 * 6 * 4 * 4 * 4 {
		g := only()
		for i, name := range []string{"A", "B", "C"} {
			g.Types = append(g.Types, api.TypeDef{Name: name, Flags: flags[x%6], Extends: x/216>>(2*i)%4 - 1})
			x = x/216*216 + x%216/6
		}
		wantAsModel(t, g)
		if t.Failed() {
			return
		}
	}
}

// P11.1 to P11.3: all images of three interfaces, or a class and two, whatever faces they have.
func TestEachFaces(t *testing.T) {
	lists := [][]int{nil, {0}, {1}, {2}, {0, 1}, {1, 0}, {0, 2}, {1, 2}, {2, 1}, {2, 1, 0}, {1, 1}, {2, 0, 2}}
	for x := range 12 * 12 * 12 {
		for first := range 2 {
			g := only(def("A", first*faceFlags, lists[x%12]...), def("I", faceFlags, lists[x/12%12]...), def("J", faceFlags, lists[x/144]...))
			wantAsModel(t, g)
			if _, e := Check(g); e == api.OK {
				wantOrder(t, g)
			}
		}
		if t.Failed() {
			return
		}
	}
}

// P11.1: all images of three types, the first of them of any kind, whatever value types they hold.
func TestEachHolding(t *testing.T) {
	for x := range 512 {
		for _, first := range []int{valueFlags, 0, faceFlags, delegateFlags} {
			g := only(def("A", first), def("V", valueFlags), def("W", valueFlags))
			for i := range 9 {
				if x>>i&1 == 1 {
					g.Fields = append(g.Fields, field(fmt.Sprint("f", i), i/3, valueOf(i%3)))
				}
			}
			wantAsModel(t, g)
		}
		if t.Failed() {
			return
		}
	}
}
