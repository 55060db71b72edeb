package state

import (
	"slices"
	"testing"

	"cattlegrid/api"
)

// P15.1: Fits, of as many types.
func TestFits(t *testing.T) {
	g := hang(t)
	c := objectType
	for _, x := range []struct {
		a, b []api.Type
		want bool
	}{
		{nil, nil, true},
		{list(), nil, true},
		{nil, list(), true},
		{list(num), list(num), true},
		{list(num), list(long), false},
		{list(c(left)), list(c(top)), true},
		{list(c(top)), list(c(left)), false},
		{list(c(left)), list(c(face)), true},
		{list(c(left)), list(c(right)), false},
		{list(c(left)), list(c(alone)), false},
		{list(null), list(c(alone)), true},
		{list(c(alone)), list(null), false},
		{list(null), list(num), false},
		{list(faultType(2)), list(fault), true},
		{list(fault), list(faultType(2)), false},
		{list(arrayOf(num)), list(object), true},
		{list(arrayOf(c(left))), list(arrayOf(c(top))), false},
		{list(refTo(c(left))), list(refTo(c(top))), false},
		{list(refTo(valueType(pair))), list(refTo(valueType(pair))), true},
		{list(valueType(pair)), list(refTo(valueType(pair))), false},
		{list(num, c(left), null, long), list(num, c(top), object, long), true},
		// The first, one in the middle and the last one don't fit.
		{list(long, c(left), null, long), list(num, c(top), object, long), false},
		{list(num, c(top), null, long), list(num, c(left), object, long), false},
		{list(num, c(left), object, long), list(num, c(top), null, long), false},
		{list(num, c(left), null, num), list(num, c(top), object, long), false},
		// The same types in another order.
		{list(num, long), list(long, num), false},
		{list(c(left), c(top)), list(c(top), c(left)), false},
	} {
		wantFits(t, g, x.a, x.b, x.want)
	}
}

// P15.1: Fits, of more or fewer types: those that are there at both fit.
func TestFitsAsMany(t *testing.T) {
	g := hang(t)
	l := list(null, null, null)
	for n := range len(l) + 1 {
		for k := range len(l) + 1 {
			wantFits(t, g, l[:n], l[:k], n == k)
			wantFits(t, g, l[:n], list(object, object, object)[:k], n == k)
		}
	}
}

// P15.1: each place of a long state is looked at.
func TestFitsEachPlace(t *testing.T) {
	g := hang(t)
	for n := 1; n <= api.MaxStack+3; n++ {
		for i := range n {
			a, b := slices.Repeat(list(objectType(left)), n), slices.Repeat(list(objectType(top)), n)
			wantFits(t, g, a, b, true)
			wantMerge(t, g, a, b, b, api.OK)
			a[i] = objectType(alone)
			wantFits(t, g, a, b, false)
			b[i] = object
			wantFits(t, g, a, b, true)
			wantMerge(t, g, a, b, b, api.OK)
			a[i] = num
			wantFits(t, g, a, b, false)
			wantMerge(t, g, a, b, nil, api.ErrMerge)
			wantMerge(t, g, b, a, nil, api.ErrMerge)
		}
	}
}

// P15.1: Merge, in both orders.
func TestMerge(t *testing.T) {
	g := hang(t)
	c := objectType
	for _, x := range []struct{ a, b, want []api.Type }{
		{nil, nil, nil},
		{list(), nil, nil},
		{list(num), list(num), list(num)},
		{list(null), list(object), list(object)},
		{list(null), list(null), list(null)},
		{list(c(left)), list(c(right)), list(c(top))},
		{list(c(left)), list(c(face)), list(c(face))},
		{list(c(left)), list(c(alone)), list(object)},
		{list(c(delegate)), list(c(top)), list(object)},
		{list(faultType(1)), list(faultType(2)), list(fault)},
		{list(faultType(1)), list(c(top)), list(object)},
		{list(arrayOf(num)), list(arrayOf(long)), list(object)},
		{list(refTo(num)), list(refTo(num)), list(refTo(num))},
		{list(num, c(left), c(left), null), list(num, c(right), c(top), c(alone)), list(num, c(top), c(top), c(alone))},
		{list(null, long, faultType(1)), list(fault, long, faultType(7)), list(fault, long, fault)},
		{list(c(left), c(right)), list(c(right), c(left)), list(c(top), c(top))},
		{list(c(left), c(alone)), list(c(left), c(left)), list(c(left), object)},
	} {
		wantMerge(t, g, x.a, x.b, x.want, api.OK)
		wantMerge(t, g, x.b, x.a, x.want, api.OK)
		wantFits(t, g, x.a, x.want, true)
		wantFits(t, g, x.b, x.want, true)
	}
}

// P15.1: ErrMerge, whichever place it is that doesn't merge.
func TestMergeNever(t *testing.T) {
	g := hang(t)
	c := objectType
	for _, x := range []struct{ a, b []api.Type }{
		{list(num), list(long)},
		{list(num), list(null)},
		{list(num), list(object)},
		{list(valueType(pair)), list(c(pair))},
		{list(valueType(pair)), list(refTo(valueType(pair)))},
		{list(refTo(c(left))), list(refTo(c(top)))},
		{list(api.Type{Kind: api.TFunc}), list(api.Type{Kind: api.TFunc, Index: 1})},
		{list(num, c(left), null), list(long, c(top), object)},
		{list(null, num, c(left)), list(object, long, c(top))},
		{list(null, c(left), num), list(object, c(top), long)},
		{list(num, num), list(long, long)},
		{list(num, long), list(long, num)},
	} {
		wantMerge(t, g, x.a, x.b, nil, api.ErrMerge)
		wantMerge(t, g, x.b, x.a, nil, api.ErrMerge)
	}
}

// P15.1: ErrStack where they haven't as many, also where types at one place don't merge.
func TestMergeAsMany(t *testing.T) {
	g := hang(t)
	for _, x := range []struct{ a, b []api.Type }{
		{nil, list(null)},
		{list(), list(num)},
		{list(null, object), list(object)},
		{list(null), list(object, object)},
		{list(num), list(long, long)},
		{list(num, null), list(long)},
		{list(null, num), list(null)},
		{list(num, long, null), list(num, num)},
		{differing(12), differing(11)},
	} {
		wantMerge(t, g, x.a, x.b, nil, api.ErrStack)
		wantMerge(t, g, x.b, x.a, nil, api.ErrStack)
	}
}

// P15.2: Pop.
func TestPop(t *testing.T) {
	l := list(num, long, object, null)
	wantPop(t, l, 0, l, nil, api.OK)
	wantPop(t, l, 1, list(num, long, object), list(null), api.OK)
	wantPop(t, l, 2, list(num, long), list(object, null), api.OK)
	wantPop(t, l, 3, list(num), list(long, object, null), api.OK)
	wantPop(t, l, 4, nil, l, api.OK)
	wantPop(t, nil, 0, nil, nil, api.OK)
	wantPop(t, list(), 0, nil, nil, api.OK)
	for _, n := range []int{5, 6, 1 << 31, int(^uint(0) >> 1), -1, -2, -4, -5, -1 << 31, -int(^uint(0)>>1) - 1} {
		wantPop(t, l, n, nil, nil, api.ErrStack)
		wantPop(t, nil, n, nil, nil, api.ErrStack)
	}
	wantPop(t, nil, 1, nil, nil, api.ErrStack)
	wantPop(t, list(num), 2, nil, nil, api.ErrStack)
	// What is in spare room isn't there.
	wantPop(t, l[:2], 3, nil, nil, api.ErrStack)
}

// P15.2: Push.
func TestPush(t *testing.T) {
	l := list(num, long)
	wantPush(t, nil, 0, nil, nil, api.OK)
	wantPush(t, nil, 1, list(num), list(num), api.OK)
	wantPush(t, nil, 0, list(num), nil, api.ErrStack)
	wantPush(t, nil, -1, nil, nil, api.ErrStack)
	wantPush(t, list(), -1, list(), nil, api.ErrStack)
	wantPush(t, l, 2, nil, l, api.OK)
	wantPush(t, l, 1, nil, nil, api.ErrStack)
	wantPush(t, l, 0, nil, nil, api.ErrStack)
	wantPush(t, l, -1, nil, nil, api.ErrStack)
	wantPush(t, l, 3, list(null), list(num, long, null), api.OK)
	wantPush(t, l, 2, list(null), nil, api.ErrStack)
	wantPush(t, l, 5, list(null, object, fault), list(num, long, null, object, fault), api.OK)
	wantPush(t, l, 4, list(null, object, fault), nil, api.ErrStack)
	wantPush(t, l, 3, list(null, object, fault), nil, api.ErrStack)
	for _, most := range []int{-1 << 31, -int(^uint(0)>>1) - 1} {
		wantPush(t, l, most, nil, nil, api.ErrStack)
		wantPush(t, nil, most, nil, nil, api.ErrStack)
		wantPush(t, nil, most, l, nil, api.ErrStack)
	}
	for _, most := range []int{4, 5, 1 << 31, int(^uint(0) >> 1)} {
		wantPush(t, l, most, list(null, null), list(num, long, null, null), api.OK)
	}
}

// P15.2: each number of types there and pushed, and each bound around both; what is pushed and popped again is there again.
func TestPushPop(t *testing.T) {
	all := differing(9)
	for n := range len(all) + 1 {
		for have := range n + 1 {
			l, pushed := all[:have], all[have:n]
			for most := -1; most < n; most++ {
				wantPush(t, l, most, pushed, nil, api.ErrStack)
			}
			wantPush(t, l, n, pushed, all[:n], api.OK)
			wantPush(t, l, n+1, pushed, all[:n], api.OK)
			wantPop(t, all[:n], n-have, l, pushed, api.OK)
		}
		wantPop(t, all[:n], n+1, nil, nil, api.ErrStack)
		wantPop(t, all[:n], -1, nil, nil, api.ErrStack)
	}
}

// P15.2: types are pushed one by one, or several at one time.
func TestPushSeveral(t *testing.T) {
	l, e := Push(nil, 3, num, long, null)
	wantList(t, "three", l, list(num, long, null), e, api.OK)
	l, e = Push(l, 4, object)
	wantList(t, "one more", l, list(num, long, null, object), e, api.OK)
	l, e = Push(l, 4)
	wantList(t, "none", l, list(num, long, null, object), e, api.OK)
	l, e = Push(l, 3)
	wantList(t, "none, though there are too many", l, nil, e, api.ErrStack)
}

// ownedBy are what methods of types of each kind are called on.
func ownedBy() []api.Type {
	c := objectType
	return list(c(face), c(top), c(left), c(right), c(alone), refTo(valueType(pair)), c(delegate))
}

// P15.3: This, of types of each kind, by each flag of methods.
func TestThis(t *testing.T) {
	g := hang(t)
	for owner, want := range ownedBy() {
		for flags := range 64 {
			m := api.Method{Owner: owner, Flags: flags}
			if flags&api.MStatic != 0 {
				wantThis(t, g, m, api.Type{}, false)
			} else {
				wantThis(t, g, m, want, true)
			}
		}
		// All the others of its fields tell nothing.
		m := api.Method{Name: "m", Owner: owner, Flags: api.MCtor, Params: list(num, refTo(long)), Ret: long, Locals: list(object), Max: 3, Code: []api.Instr{{Op: api.ORet}}, Clauses: []api.Clause{{Kind: api.CFinally}}}
		wantThis(t, g, m, want, true)
		m.Name, m.Max, m.Flags = "", -1, -2
		wantThis(t, g, m, want, true)
		m.Flags = -1
		wantThis(t, g, m, api.Type{}, false)
	}
}

// P15.3: This and Args of a method whose type isn't there.
func TestThisOfNobody(t *testing.T) {
	g := hang(t)
	for _, owner := range []int{-1, -2, -1 << 31, nobody, nobody + 1, api.MaxTypes, 1 << 31, 1 << 32, int(^uint(0) >> 1), -int(^uint(0)>>1) - 1} {
		for flags := range 32 {
			m := api.Method{Owner: owner, Flags: flags, Params: list(num, null)}
			wantThis(t, g, m, api.Type{}, false)
			wantArgs(t, g, m, num, null)
			m.Params = nil
			wantArgs(t, g, m)
		}
	}
	wantThis(t, api.Image{}, api.Method{}, api.Type{}, false)
	wantArgs(t, api.Image{}, api.Method{Params: list(num)}, num)
}

// P15.3: Args, with what the method is called on ahead of its parameters, and without it.
func TestArgs(t *testing.T) {
	g := hang(t)
	for owner, this := range ownedBy() {
		for n := range api.MaxParams + 2 {
			params := append(list(refTo(num)), differing(n)...)[:n]
			m := api.Method{Name: "m", Owner: owner, Params: params, Ret: long, Locals: list(fault), Max: 1}
			wantArgs(t, g, m, append(list(this), params...)...)
			m.Flags = api.MVirtual | api.MCtor
			wantArgs(t, g, m, append(list(this), params...)...)
			m.Flags = api.MStatic
			wantArgs(t, g, m, params...)
		}
	}
	wantArgs(t, g, api.Method{Owner: top, Params: list()}, objectType(top))
	wantArgs(t, g, api.Method{Owner: top, Flags: api.MStatic, Params: list()})
}
