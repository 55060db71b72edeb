package fit

import (
	"fmt"
	"math"
	"math/rand"
	"slices"
	"testing"

	"cattlegrid/api"
	"cattlegrid/tree"
)

// model tells of an image whose types are well which types fit which, by a table of what is below what.
type model struct {
	g     api.Image
	below [api.MaxTypes][api.MaxTypes]bool
}

func modelOf(g api.Image) *model {
	x := &model{g: g}
	for t, d := range g.Types {
		x.below[t][t] = true
		for _, u := range append([]int{d.Extends}, d.Faces...) {
			if u >= 0 {
				x.below[t][u] = true
			}
		}
	}
	for k := range g.Types {
		for a := range g.Types {
			for b := range g.Types {
				x.below[a][b] = x.below[a][b] || x.below[a][k] && x.below[k][b]
			}
		}
	}
	return x
}

// types are those of each kind, plain and in states, that an image's types may be part of.
func (x *model) types() []api.Type {
	l := []api.Type{num, long, object, null, fault, faultType(1), faultType(7), {Kind: api.TFunc}, arrayOf(num, 1), arrayOf(object, 1), arrayOf(object, 2), refTo(num), refTo(object)}
	for i, d := range x.g.Types {
		if d.Flags&api.FValue != 0 {
			l = append(l, valueType(i), refTo(valueType(i)), arrayOf(valueType(i), 1))
			continue
		}
		l = append(l, objectType(i))
		if i%3 == 0 {
			l = append(l, arrayOf(objectType(i), 1), arrayOf(objectType(i), 2), refTo(objectType(i)))
		}
	}
	return l
}

// rank tells what kind of thing a type of a model is.
func rank(a api.Type) string {
	switch {
	case a.Ref || a.Dims == 0 && (a.Kind < api.TObject || a.Kind == api.TValue || a.Kind == api.TFunc):
		return "other"
	case a.Dims > 0:
		return "array"
	case a == object:
		return "any"
	case a == null:
		return "null"
	case a.Kind == api.TFault:
		return "fault"
	}
	return "class"
}

func (x *model) fits(a, b api.Type) bool {
	switch both := rank(a) + " " + rank(b); {
	case a == b:
		return true
	case rank(a) == "other" || rank(b) == "other":
		return false
	case rank(a) == "null" || rank(b) == "any":
		return true
	case both == "class class":
		return x.below[a.Index][b.Index]
	case both == "fault fault":
		return b.Index == 0
	}
	return false
}

func (x *model) isClass(i int) bool {
	return x.g.Types[i].Flags&(api.FFace|api.FDelegate) == 0
}

// common is the class that both are below, and that all such classes are above.
func (x *model) common(a, b int) api.Type {
	for u := range x.g.Types {
		if !x.isClass(u) || !x.below[a][u] || !x.below[b][u] {
			continue
		}
		nearest := true
		for v := range x.g.Types {
			nearest = nearest && (!x.isClass(v) || !x.below[a][v] || !x.below[b][v] || x.below[u][v])
		}
		if nearest {
			return objectType(u)
		}
	}
	return object
}

func (x *model) merge(a, b api.Type) (api.Type, api.Errno) {
	switch both := rank(a) + " " + rank(b); {
	case x.fits(b, a):
		return a, api.OK
	case x.fits(a, b):
		return b, api.OK
	case rank(a) == "other" || rank(b) == "other":
		return api.Type{}, api.ErrMerge
	case both == "fault fault":
		return fault, api.OK
	case both == "class class" && x.isClass(a.Index) && x.isClass(b.Index):
		return x.common(a.Index, b.Index), api.OK
	}
	return object, api.OK
}

// randomTypes are types that hang together well: what leads from one to another leads to one that stands ahead, in an order by chance.
func randomTypes(r *rand.Rand, most int) api.Image {
	n := 1 + r.Intn(most)
	kinds := []int{0, 0, 0, 0, 0, api.FAbstract, api.FValue | api.FSealed, api.FFace | api.FAbstract, api.FFace | api.FAbstract, api.FDelegate | api.FSealed}
	g := api.Image{Entry: -1, Types: make([]api.TypeDef, n)}
	for k := range g.Types {
		g.Types[k] = def(fmt.Sprint("T", k), kinds[r.Intn(len(kinds))], -1)
	}
	order := r.Perm(n)
	for i, k := range order {
		for _, ahead := range order[:i] {
			d := &g.Types[k]
			switch flags := g.Types[ahead].Flags; {
			case flags&api.FFace != 0 && len(d.Faces) < api.MaxFaces && r.Intn(3) == 0:
				d.Faces = append(d.Faces, ahead)
			case flags&^api.FAbstract == 0 && d.Flags&^api.FAbstract == 0 && r.Intn(3) > 0:
				d.Extends = ahead
			}
		}
	}
	return g
}

// P14.1, P14.2: each two types of images by a fixed seed, held against the model.
func TestModel(t *testing.T) {
	r := rand.New(rand.NewSource(14))
	told := map[string]int{}
	for range 1200 {
		g := randomTypes(r, 12)
		if k, e := tree.Check(g); e != api.OK {
			t.Fatal("types", k, e, g)
		}
		x := modelOf(g)
		l := x.types()
		for _, a := range l {
			for _, b := range l {
				m, e := x.merge(a, b)
				wantFits(t, g, a, b, x.fits(a, b))
				wantMerge(t, g, a, b, m, e)
				wantCast(t, g, a, b, b == object || rank(a) != "other" && x.fits(a, b))
				told[rank(a)+" "+rank(b)+" "+rank(m)]++
			}
		}
		if t.Failed() {
			t.Fatal(g)
		}
	}
	for _, k := range []string{"class class class", "class class any", "fault fault fault", "array array any", "array array array", "null class class", "class fault any", "other other other"} {
		if told[k] < 100 {
			t.Error("told seldom:", k, told)
		}
	}
}

// wantOrder looks at what P14.3 promises of each two and each three of some types.
func wantOrder(t *testing.T, g api.Image, l []api.Type) {
	t.Helper()
	does := make([][]bool, len(l))
	for i, a := range l {
		for _, b := range l {
			does[i] = append(does[i], Fits(g, a, b))
		}
		if !does[i][i] {
			t.Error("doesn't fit itself", a)
		}
	}
	for i, a := range l {
		for j, b := range l {
			if i != j && does[i][j] && does[j][i] {
				t.Error("fit each other", a, b)
			}
			for k, c := range l {
				if does[i][j] && does[j][k] && !does[i][k] {
					t.Error("doesn't go on", a, b, c)
				}
			}
			wantMeeting(t, g, l, does, i, j)
		}
	}
}

// wantMeeting looks at whether two types fit what they merge to, and that, if it is one of classes, all that both fit.
func wantMeeting(t *testing.T, g api.Image, l []api.Type, does [][]bool, i, j int) {
	t.Helper()
	m, e := Merge(g, l[i], l[j])
	if e != api.OK {
		return
	}
	if !Fits(g, l[i], m) || !Fits(g, l[j], m) {
		t.Error("don't fit", l[i], l[j], m)
	}
	isClass := func(a api.Type) bool {
		return rank(a) == "class" && tree.Kind(g, a.Index) == 0
	}
	if !isClass(l[i]) || !isClass(l[j]) {
		return
	}
	for k, c := range l {
		if isClass(c) && does[i][k] && does[j][k] && !Fits(g, m, c) {
			t.Error("isn't the nearest", l[i], l[j], m, c)
		}
	}
}

// P14.3: of images by a fixed seed, and of hang's.
func TestOrder(t *testing.T) {
	r := rand.New(rand.NewSource(143))
	for range 40 {
		g := randomTypes(r, 10)
		wantOrder(t, g, modelOf(g).types())
		if t.Failed() {
			t.Fatal(g)
		}
	}
	wantOrder(t, hang(t), modelOf(hang(t)).types())
}

// P14.3: where classes stand 32 deep, and where two lines of them come from one.
func TestDeep(t *testing.T) {
	g := api.Image{Entry: -1}
	for k := range api.MaxTypes {
		g.Types = append(g.Types, def(fmt.Sprint("T", k), 0, k-2))
	}
	g.Types[0].Extends, g.Types[1].Extends = -1, 0
	if _, e := tree.Check(g); e != api.OK {
		t.Fatal(e)
	}
	c := objectType
	wantMerged(t, g, apart(c(30), c(31), c(0)))
	wantMerged(t, g, apart(c(2), c(31), c(0)))
	wantMerged(t, g, fits(c(30), c(2)))
	wantMerged(t, g, fits(c(31), c(0)))
	wantOrder(t, g, modelOf(g).types())
}

// copyOf is an image with memory of its own.
func copyOf(g api.Image) api.Image {
	g.Types = slices.Clone(g.Types)
	for i := range g.Types {
		g.Types[i].Faces = slices.Clone(g.Types[i].Faces)
	}
	return g
}

// R1: at images whose types aren't well, and at those that aren't formed, every call ends; what is the same fits, and what is no object's doesn't merge.
func TestWild(t *testing.T) {
	wild := []int{math.MinInt, -2, -1, 0, 1, 2, 31, 32, 1 << 31, math.MaxInt}
	for _, a := range wild {
		for _, b := range wild {
			g := api.Image{Entry: a, Types: []api.TypeDef{def("A", 0, a, b), def("A", b, b, a), def("B", 0, 3), def("C", 0, 2, 4), def("I", api.FFace, 0, 4, 5), def("J", api.FFace, 2, 4)}}
			before := fmt.Sprint(g)
			for _, i := range wild {
				x, y := api.Type{Kind: api.TClass, Index: i}, api.Type{Kind: a, Index: b, Dims: i}
				for _, k := range []api.Type{x, y, refTo(y), null, object, fault, objectType(3)} {
					wantFits(t, g, x, x, true)
					wantMerge(t, g, x, x, x, api.OK)
					m, e := Merge(g, x, k)
					if isErr := !Object(k); isErr != (e == api.ErrMerge) || isErr && m != (api.Type{}) {
						t.Error(x, k, m, e)
					}
					Fits(g, k, x)
					Cast(g, x, k)
					Cast(g, k, y)
					Merge(g, k, y)
				}
			}
			if fmt.Sprint(g) != before {
				t.Error("changed", g)
			}
		}
	}
	wantFits(t, api.Image{}, objectType(0), objectType(1), false)
	wantMerge(t, api.Image{}, objectType(0), objectType(1), object, api.OK)
	wantFits(t, api.Image{}, null, objectType(1), true)
	wantCast(t, api.Image{}, num, object, true)
}

// R4: what was handed in stays as it was, spare room included.
func TestUnchanged(t *testing.T) {
	g := hang(t)
	g.Types = append(make([]api.TypeDef, 0, 40), g.Types...)
	spare := g.Types[:40]
	spare[39] = def("spare", 7, 7)
	for k := range g.Types {
		g.Types[k].Faces = append(make([]int, 0, 9), g.Types[k].Faces...)
		g.Types[k].Faces[:9][8] = 77
	}
	before := copyOf(g)
	for _, a := range all() {
		for _, b := range all() {
			Fits(g, a, b)
			Cast(g, a, b)
			Merge(g, a, b)
		}
	}
	for k := range g.Types {
		if g.Types[k].Faces[:9][8] != 77 {
			t.Error("spare room", k)
		}
	}
	if fmt.Sprint(g) != fmt.Sprint(before) || spare[39].Name != "spare" {
		t.Error("changed")
	}
}
