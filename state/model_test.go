package state

import (
	"fmt"
	"math"
	"math/rand"
	"slices"
	"testing"

	"cattlegrid/api"
	"cattlegrid/fit"
	"cattlegrid/tree"
)

// modelFits goes down from the top, as the chapter doesn't, to tell whether a fits b.
func modelFits(g api.Image, a, b []api.Type) bool {
	if len(a) == 0 || len(b) == 0 {
		return len(a)+len(b) == 0
	}
	x, y := len(a)-1, len(b)-1
	return modelFits(g, a[:x], b[:y]) && fit.Fits(g, a[x], b[y])
}

// modelMerge tells what is wrong ahead of what is right.
func modelMerge(g api.Image, a, b []api.Type) ([]api.Type, api.Errno) {
	var l []api.Type
	e := api.OK
	for i := range min(len(a), len(b)) {
		k, wrong := fit.Merge(g, a[i], b[i])
		l = append(l, k)
		e = max(e, wrong)
	}
	if len(a) != len(b) {
		e = api.ErrStack
	}
	if e != api.OK {
		return nil, e
	}
	return l, api.OK
}

// wantModel looks at Fits and Merge of two states, and counts what they told.
func wantModel(t *testing.T, g api.Image, a, b []api.Type, told map[string]int) {
	t.Helper()
	m, e := modelMerge(g, a, b)
	wantFits(t, g, a, b, modelFits(g, a, b))
	wantMerge(t, g, a, b, m, e)
	if e == api.OK {
		wantFits(t, g, a, m, true)
		wantFits(t, g, b, m, true)
	}
	told[fmt.Sprint(modelFits(g, a, b), int(e))]++
	if e == api.OK && !slices.Equal(m, a) && !slices.Equal(m, b) {
		told["another"]++
	}
}

// P15.1, P15.2: states by a fixed seed, held against models and against layer 14.
func TestModel(t *testing.T) {
	r := rand.New(rand.NewSource(15))
	told := map[string]int{}
	for range 1500 {
		g := randomTypes(t, r)
		for range 12 {
			a := listBy(r, len(g.Types), 6)
			b := likeBy(r, a, len(g.Types))
			wantModel(t, g, a, b, told)
			wantModel(t, g, b, a, told)
			n := r.Intn(9) - 1
			if left, top, e := Pop(a, n); e == api.OK {
				wantPush(t, left, len(a), top, a, api.OK)
				wantPush(t, left, len(a)-1, top, nil, api.ErrStack)
				wantList(t, "on top", top, a[len(a)-n:], e, api.OK)
			} else if n >= 0 && n <= len(a) || e != api.ErrStack {
				t.Error("pop", a, n, e)
			}
		}
		if t.Failed() {
			t.Fatal(g)
		}
	}
	for _, k := range []string{"true 0", "false 0", "false 9", "false 14", "another"} {
		if told[k] < 100 {
			t.Error("told seldom:", k, told)
		}
	}
}

// P15.3: methods by a fixed seed: what is called on is found among the types, told apart by their flags.
func TestMethodsModel(t *testing.T) {
	r := rand.New(rand.NewSource(153))
	for range 3000 {
		g := randomTypes(t, r)
		m := api.Method{Owner: r.Intn(len(g.Types)+4) - 2, Flags: r.Intn(32), Params: listBy(r, len(g.Types), api.MaxParams)}
		var this []api.Type
		for k, d := range g.Types {
			if k == m.Owner && m.Flags&api.MStatic == 0 && d.Flags&api.FValue == 0 {
				this = list(objectType(k))
			} else if k == m.Owner && m.Flags&api.MStatic == 0 {
				this = list(refTo(valueType(k)))
			}
		}
		if len(this) == 1 {
			wantThis(t, g, m, this[0], true)
		} else {
			wantThis(t, g, m, api.Type{}, false)
		}
		wantArgs(t, g, m, append(this, m.Params...)...)
	}
}

// wildNumbers are those at which numbers end or begin to be something.
func wildNumbers() []int {
	return []int{math.MinInt, -2, -1, 0, 1, 2, 31, 32, 1 << 31, math.MaxInt}
}

// R1: at images whose types aren't well, at those that aren't formed, and at types that are none, every call ends, and tells what its promise says of layers 11 and 14.
func TestWild(t *testing.T) {
	wild := wildNumbers()
	for _, a := range wild {
		for _, b := range wild {
			g := api.Image{Entry: a, Types: []api.TypeDef{def("A", 0, a, b), def("A", b, b, a), def("B", 0, 3), def("C", 0, 2, 4), def("I", api.FFace, 0, 4, 5), def("J", api.FFace|api.FValue, 2, 4)}}
			before := fmt.Sprint(g)
			for _, i := range wild {
				x, y := api.Type{Kind: api.TClass, Index: i}, api.Type{Kind: a, Index: b, Dims: i}
				l := list(x, y, refTo(y), null, fault, objectType(3))
				wantFits(t, g, l, l, true)
				wantMerge(t, g, l, l, l, api.OK)
				wantModel(t, g, l, append(l[1:], x), map[string]int{})
				Pop(l, i)
				Push(l, i, l...)
				wantWildMethod(t, g, api.Method{Owner: i, Flags: b, Params: l, Max: i})
			}
			if fmt.Sprint(g) != before {
				t.Error("changed", g)
			}
		}
	}
}

// wantWildMethod looks at This and Args of any method of any image, held against layer 11.
func wantWildMethod(t *testing.T, g api.Image, m api.Method) {
	t.Helper()
	kind := tree.Kind(g, m.Owner)
	switch {
	case kind < 0 || m.Flags&api.MStatic != 0:
		wantThis(t, g, m, api.Type{}, false)
		wantArgs(t, g, m, m.Params...)
	case kind == 1:
		wantThis(t, g, m, refTo(valueType(m.Owner)), true)
		wantArgs(t, g, m, append(list(refTo(valueType(m.Owner))), m.Params...)...)
	default:
		wantThis(t, g, m, objectType(m.Owner), true)
		wantArgs(t, g, m, append(list(objectType(m.Owner)), m.Params...)...)
	}
}

// P15.3: images that aren't formed: the kind of a type goes by its flags alone.
func TestKinds(t *testing.T) {
	for flags := range 64 {
		g := api.Image{Types: []api.TypeDef{def("", flags, 7, -5, 9)}, Entry: 99}
		wantWildMethod(t, g, api.Method{})
		wantWildMethod(t, g, api.Method{Flags: api.MStatic})
		isValue := flags&api.FValue != 0 && flags&api.FFace == 0
		if this, is := This(g, api.Method{}); !is || this.Ref != isValue {
			t.Error(flags, this, is)
		}
	}
}

// spared are those types with spare room behind them that nobody is to touch.
func spared(l ...api.Type) []api.Type {
	l = append(make([]api.Type, 0, len(l)+5), l...)
	for i := range l[len(l):cap(l)] {
		l[:cap(l)][len(l)+i] = valueType(70 + i)
	}
	return l
}

// whole is a list with its spare room.
func whole(l []api.Type) []api.Type { return l[:cap(l)] }

// spoil writes over a list and over its spare room, and appends to it.
func spoil(l []api.Type) {
	for i := range whole(l) {
		whole(l)[i] = faultType(6)
	}
	_ = append(l, faultType(5))
}

// R4: what was handed in stays as it was, spare room included, also where what is answered is written over and appended to.
func TestUnchanged(t *testing.T) {
	g := hang(t)
	for n := range 5 {
		a, b := spared(differing(n)...), spared(slices.Repeat(list(null), n)...)
		m := api.Method{Owner: top, Params: a}
		static := api.Method{Owner: top, Params: b, Flags: api.MStatic}
		wantA, wantB, wantG := slices.Clone(whole(a)), slices.Clone(whole(b)), fmt.Sprint(g)
		for k := -1; k <= n+1; k++ {
			left, onTop, _ := Pop(a, k)
			spoil(left)
			spoil(onTop)
			for most := -1; most <= 2*n+1; most++ {
				pushed, _ := Push(a, most, b[:max(k, 0)]...)
				spoil(pushed)
				pushed, _ = Push(a[:min(n, max(k, 0))], most, b...)
				spoil(pushed)
			}
		}
		for _, l := range [][]api.Type{a, b} {
			merged, _ := Merge(g, l, l)
			spoil(merged)
			merged, _ = Merge(g, a, l)
			spoil(merged)
			merged, _ = Merge(g, l, b)
			spoil(merged)
			Fits(g, a, l)
			Fits(g, l, a)
		}
		This(g, m)
		spoil(Args(g, m))
		spoil(Args(g, static))
		if !slices.Equal(whole(a), wantA) || !slices.Equal(whole(b), wantB) || fmt.Sprint(g) != wantG {
			t.Error("changed", whole(a), whole(b), g)
		}
	}
}

// R4: what is answered shares no memory with what was answered ahead, or beside it; what is handed in may be written over then.
func TestFresh(t *testing.T) {
	g := hang(t)
	for n := range 5 {
		want, nulls := differing(n), slices.Repeat(list(null), n)
		in := spared(want...)
		m := api.Method{Owner: top, Params: in}
		static := api.Method{Owner: top, Params: in, Flags: api.MStatic}
		for k := range n + 1 {
			left, onTop, _ := Pop(in, k)
			again, againTop, _ := Pop(in, k)
			spoil(left)
			if !slices.Equal(onTop, want[n-k:]) {
				t.Error("on top", onTop)
			}
			left, _, _ = Pop(in, k)
			spoil(onTop)
			if !slices.Equal(left, want[:n-k]) || !slices.Equal(again, left) || !slices.Equal(againTop, want[n-k:]) {
				t.Error("left", left, again, againTop)
			}
		}
		pushed, _ := Push(in, 2*n, nulls...)
		none, _ := Push(in, n)
		alone, _ := Push(nil, n, in...)
		merged, _ := Merge(g, in, in)
		args, params := Args(g, m), Args(g, static)
		for _, l := range [][]api.Type{first(Push(in, 2*n, nulls...)), first(Push(in, n)), first(Push(nil, n, in...)), first(Merge(g, in, in)), Args(g, m), Args(g, static)} {
			spoil(l)
		}
		spoil(in)
		for i, l := range [][]api.Type{pushed[:n], none, alone, merged, args[1:], params} {
			if !slices.Equal(l, want) {
				t.Error(i, l)
			}
		}
		if !slices.Equal(pushed[n:], nulls) || args[0] != objectType(top) {
			t.Error(pushed, args)
		}
	}
}

// first is a call's list without its error.
func first(l []api.Type, _ api.Errno) []api.Type { return l }

// R5: the calls tell the same again, whatever was asked between.
func TestAgain(t *testing.T) {
	g, other := hang(t), api.Image{}
	a, b := list(objectType(left), null), list(objectType(right), fault)
	for range 3 {
		wantMerge(t, g, a, b, list(objectType(top), fault), api.OK)
		wantMerge(t, other, a, b, list(object, fault), api.OK)
		wantThis(t, other, api.Method{Owner: top}, api.Type{}, false)
		wantThis(t, g, api.Method{Owner: top}, objectType(top), true)
		wantFits(t, other, a[:1], list(objectType(top)), false)
		wantFits(t, g, a[:1], list(objectType(top)), true)
	}
}
