package regions

import (
	"math"
	"math/bits"
	"slices"
	"testing"

	"cattlegrid/api"
)

// clause is one without a filter.
func clause(kind, tryFrom, tryTo, handFrom, handTo int) api.Clause {
	return api.Clause{Kind: kind, TryFrom: tryFrom, TryTo: tryTo, HandFrom: handFrom, HandTo: handTo, Filter: -1}
}

// filtered is one with a filter right ahead of what handles.
func filtered(tryFrom, tryTo, filter, handFrom, handTo int) api.Clause {
	return api.Clause{Kind: api.CFilter, TryFrom: tryFrom, TryTo: tryTo, HandFrom: handFrom, HandTo: handTo, Filter: filter}
}

// set is instructions 0 to 63, a bit each: the model holds regions against each other by what is in them, not by their ends.
type set uint64

func setOf(from, to int) set {
	var s set
	for i := from; i < to; i++ {
		s |= 1 << i
	}
	return s
}

// modelSets are the regions of a right clause, by their parts (from 1 on).
func modelSets(c api.Clause) map[int]set {
	m := map[int]set{1: setOf(c.TryFrom, c.TryTo), 2: setOf(c.HandFrom, c.HandTo)}
	if c.Kind == 2 {
		m[3] = setOf(c.Filter, c.HandFrom)
	}
	return m
}

// modelNumbers tells whether the numbers of c are so.
func modelNumbers(n int, c api.Clause) bool {
	if c.Kind != 1 && c.Kind != 2 && c.Kind != 3 && c.Kind != 4 {
		return false
	}
	for _, p := range [][2]int{{c.TryFrom, c.TryTo}, {c.HandFrom, c.HandTo}} {
		if p[0] < 0 || p[1] > n || p[0] >= p[1] {
			return false
		}
	}
	if c.Kind != 2 {
		return c.Filter == -1
	}
	return c.Filter >= 0 && c.Filter < c.HandFrom
}

// modelApart tells whether the regions of c, whose numbers are so, share no instruction.
func modelApart(c api.Clause) bool {
	sum := 0
	var whole set
	for _, s := range modelSets(c) {
		sum += bits.OnesCount64(uint64(s))
		whole |= s
	}
	return sum == bits.OnesCount64(uint64(whole))
}

// modelFits tells whether the earlier clause fits the later one; both are right.
func modelFits(earlier, later api.Clause) bool {
	var a, b set
	for _, s := range modelSets(earlier) {
		a |= s
	}
	for _, s := range modelSets(later) {
		b |= s
	}
	if a&b == 0 {
		return true
	}
	if x := modelSets(earlier)[1]; x == modelSets(later)[1] && a&b == x {
		return true
	}
	for _, outer := range modelSets(later) {
		within := true
		for _, s := range modelSets(earlier) {
			within = within && s&^outer == 0 && s != outer
		}
		if within {
			return true
		}
	}
	return false
}

func modelCheck(n int, l []api.Clause) (int, api.Errno) {
	if len(l) > 6 {
		return 0, 4
	}
	for i, c := range l {
		if !modelNumbers(n, c) {
			return i, 3
		}
		if !modelApart(c) {
			return i, 12
		}
		for _, earlier := range l[:i] {
			if !modelFits(earlier, c) {
				return i, 12
			}
		}
	}
	return 0, 0
}

// modelChain takes, again and again, the smallest region that has the instruction and isn't the same as one that was taken; of equal ones that of the earliest clause.
func modelChain(l []api.Clause, at int) []api.Region {
	var out []api.Region
	if at < 0 {
		return out
	}
	taken := map[set]bool{}
	for {
		best, least := api.Region{}, set(0)
		for i, c := range l {
			for part := 1; part <= 3; part++ {
				s := modelSets(c)[part]
				if s>>at&1 == 0 || taken[s] {
					continue
				}
				if least == 0 || bits.OnesCount64(uint64(s)) < bits.OnesCount64(uint64(least)) {
					best, least = api.Region{Clause: i, Part: part}, s
				}
			}
		}
		if least == 0 {
			return out
		}
		taken[least] = true
		out = append(out, best)
	}
}

// modelEnters are what is left of the chain of to, without any number of regions that are tried and begin at to ahead.
func modelEnters(l []api.Clause, to int) [][]api.Region {
	c := modelChain(l, to)
	out := [][]api.Region{c}
	for len(c) > 0 && c[0].Part == 1 && l[c[0].Clause].TryFrom == to {
		c = c[1:]
		out = append(out, c)
	}
	return out
}

func modelPass(l []api.Clause, from, to int) bool {
	for _, c := range modelEnters(l, to) {
		if slices.Equal(c, modelChain(l, from)) {
			return true
		}
	}
	return false
}

func modelLeave(l []api.Clause, from, to int) bool {
	left := modelChain(l, from)
	for {
		for _, c := range modelEnters(l, to) {
			if slices.Equal(c, left) {
				return true
			}
		}
		if len(left) == 0 {
			return false
		}
		part, kind := left[0].Part, l[left[0].Clause].Kind
		if part != 1 && (part != 2 || kind != 1 && kind != 2) {
			return false
		}
		left = left[1:]
	}
}

// modelTries are the clauses of the kinds whose tried part has at, and not but.
func modelTries(l []api.Clause, at, but int, kinds ...int) []int {
	var out []int
	for i, c := range l {
		has := func(x int) bool { return x >= 0 && setOf(c.TryFrom, c.TryTo)>>x&1 == 1 }
		if slices.Contains(kinds, c.Kind) && has(at) && !has(but) {
			out = append(out, i)
		}
	}
	return out
}

// rightClauses are all clauses that are right of n instructions, of the kinds.
func rightClauses(n int, kinds ...int) []api.Clause {
	var l []api.Clause
	for _, kind := range kinds {
		for f := range n * n * n * n * (n + 1) {
			c := api.Clause{Kind: kind, TryFrom: f % n, TryTo: f/n%n + 1, HandFrom: f / n / n % n, HandTo: f/n/n/n%n + 1, Filter: f/n/n/n/n - 1}
			if modelNumbers(n, c) && modelApart(c) {
				l = append(l, c)
			}
		}
	}
	return l
}

func wantCheck(t *testing.T, n int, l []api.Clause, want int, wantE api.Errno) {
	t.Helper()
	if i, e := Check(n, l); i != want || e != wantE {
		t.Errorf("Check(%d, %v): %d %v, want %d %v", n, l, i, e, want, wantE)
	}
}

// wantCheckAsModel wants that, too, of what is handed in as the chapter's words have it.
func wantCheckAsModel(t *testing.T, n int, l []api.Clause) {
	t.Helper()
	i, e := modelCheck(n, l)
	wantCheck(t, n, l, i, e)
}

func wantChain(t *testing.T, l []api.Clause, at int, want ...api.Region) {
	t.Helper()
	if c := Chain(l, at); !slices.Equal(c, want) {
		t.Errorf("Chain(%v, %d): %v, want %v", l, at, c, want)
	}
}

func wantWays(t *testing.T, l []api.Clause, from, to int, pass, leave bool) {
	t.Helper()
	if p := Pass(l, from, to); p != pass {
		t.Errorf("Pass(%v, %d, %d): %v", l, from, to, p)
	}
	if p := Leave(l, from, to); p != leave {
		t.Errorf("Leave(%v, %d, %d): %v", l, from, to, p)
	}
}

func wantFinals(t *testing.T, l []api.Clause, from, to int, want ...int) {
	t.Helper()
	if f := Finals(l, from, to); !slices.Equal(f, want) {
		t.Errorf("Finals(%v, %d, %d): %v, want %v", l, from, to, f, want)
	}
}

func wantTries(t *testing.T, l []api.Clause, at int, want ...int) {
	t.Helper()
	if f := Tries(l, at); !slices.Equal(f, want) {
		t.Errorf("Tries(%v, %d): %v, want %v", l, at, f, want)
	}
}

// P9.1: how many clauses there may be, whatever they are.
func TestCheckHowMany(t *testing.T) {
	var l []api.Clause
	wantCheck(t, 10, nil, 0, api.OK)
	wantCheck(t, 10, []api.Clause{}, 0, api.OK)
	wantCheck(t, 0, nil, 0, api.OK)
	wantCheck(t, -1, nil, 0, api.OK)
	for i := range api.MaxClauses {
		l = append(l, clause(1+i%4, 2*i, 2*i+1, 2*i+1, 2*i+2))
		if l[i].Kind == api.CFilter {
			l[i].TryFrom, l[i].TryTo, l[i].Filter = 20+i, 21+i, 2*i
		}
		wantCheck(t, 40, l, 0, api.OK)
	}
	wantCheck(t, 40, append(l[:6:6], clause(1, 30, 31, 31, 32)), 0, api.ErrFull)
	wantCheck(t, 40, make([]api.Clause, 7), 0, api.ErrFull)
	wantCheck(t, 40, make([]api.Clause, 6), 0, api.ErrRange)
	wantCheck(t, -5, make([]api.Clause, 1000), 0, api.ErrFull)
}

// P9.1: each kind, and those that are none.
func TestCheckKinds(t *testing.T) {
	for kind := -2; kind < 8; kind++ {
		c := clause(kind, 0, 1, 2, 3)
		want := api.OK
		if kind == 2 {
			c.Filter = 1
		}
		if kind < 1 || kind > 4 {
			want = api.ErrRange
		}
		wantCheck(t, 3, []api.Clause{c}, 0, want)
	}
	for _, kind := range []int{math.MinInt, math.MaxInt, 1 << 32, 1<<32 + 1, 257} {
		wantCheck(t, 3, []api.Clause{clause(kind, 0, 1, 2, 3)}, 0, api.ErrRange)
	}
}

// P9.1: parts that are empty, that end ahead of their beginning, that begin below 0, that end at n and behind it; what is tried and what handles, each with the other one right.
func TestCheckParts(t *testing.T) {
	for _, x := range []struct {
		from, to int
		want     api.Errno
	}{
		{4, 5, api.OK}, {4, 8, api.OK}, {7, 8, api.OK},
		{4, 4, api.ErrRange}, {5, 4, api.ErrRange}, {8, 8, api.ErrRange}, {8, 9, api.ErrRange}, {7, 9, api.ErrRange}, {9, 8, api.ErrRange}, {9, 10, api.ErrRange},
		{math.MaxInt, math.MinInt, api.ErrRange}, {math.MinInt, math.MaxInt, api.ErrRange}, {4, math.MaxInt, api.ErrRange}, {4, math.MinInt, api.ErrRange}, {math.MaxInt, 8, api.ErrRange},
	} {
		wantCheck(t, 8, []api.Clause{clause(1, x.from, x.to, 1, 3)}, 0, x.want)
		wantCheck(t, 8, []api.Clause{clause(3, 1, 3, x.from, x.to)}, 0, x.want)
		second := 1
		if x.want == api.OK {
			second = 0
		}
		wantCheck(t, 8, []api.Clause{clause(4, 1, 3, 3, 4), clause(4, x.from, x.to, 0, 1)}, second, x.want)
	}
	for _, x := range []struct {
		from, to int
		want     api.Errno
	}{
		{0, 1, api.OK}, {0, 2, api.OK}, {-1, 1, api.ErrRange}, {-2, -1, api.ErrRange}, {-1, 0, api.ErrRange}, {0, 0, api.ErrRange}, {0, -1, api.ErrRange}, {math.MinInt, 1, api.ErrRange},
	} {
		wantCheck(t, 8, []api.Clause{clause(1, x.from, x.to, 2, 8)}, 0, x.want)
		wantCheck(t, 8, []api.Clause{clause(1, 2, 8, x.from, x.to)}, 0, x.want)
	}
}

// P9.1: of a code of no instructions, or fewer, nothing is a part.
func TestCheckWithoutInstructions(t *testing.T) {
	for _, n := range []int{0, 1, -1, math.MinInt} {
		wantCheck(t, n, []api.Clause{clause(1, 0, 1, 1, 2)}, 0, api.ErrRange)
		wantCheck(t, n, []api.Clause{clause(1, 0, 0, 0, 0)}, 0, api.ErrRange)
		wantCheck(t, n, []api.Clause{clause(1, -2, -1, -4, -3)}, 0, api.ErrRange)
		wantCheck(t, n, []api.Clause{{}}, 0, api.ErrRange)
	}
	wantCheck(t, 2, []api.Clause{clause(1, 0, 1, 1, 2)}, 0, api.OK)
	wantCheck(t, math.MaxInt, []api.Clause{clause(1, 0, 1, 1, math.MaxInt)}, 0, api.OK)
	wantCheck(t, math.MaxInt, []api.Clause{clause(1, 1, math.MaxInt, 0, 1)}, 0, api.OK)
}

// P9.1: Filter of kind 2 is from 0 on and below HandFrom, of other kinds it is -1.
func TestCheckFilter(t *testing.T) {
	for _, x := range []struct {
		filter int
		want   api.Errno
	}{
		{4, api.OK}, {3, api.OK}, {2, api.OK}, {0, api.OK},
		{5, api.ErrRange}, {6, api.ErrRange}, {7, api.ErrRange}, {8, api.ErrRange}, {-1, api.ErrRange}, {-2, api.ErrRange}, {math.MaxInt, api.ErrRange}, {math.MinInt, api.ErrRange},
	} {
		wantCheck(t, 8, []api.Clause{filtered(7, 8, x.filter, 5, 6)}, 0, x.want)
	}
	for _, kind := range []int{1, 3, 4} {
		for _, filter := range []int{-2, 0, 1, 2, 4, 5, 8, math.MaxInt, math.MinInt} {
			c := clause(kind, 7, 8, 5, 6)
			wantCheck(t, 8, []api.Clause{c}, 0, api.OK)
			c.Filter = filter
			wantCheck(t, 8, []api.Clause{c}, 0, api.ErrRange)
		}
	}
}

// P9.1: what is caught has no part in it.
func TestCheckWithoutT(t *testing.T) {
	c := clause(1, 0, 1, 1, 2)
	c.T = api.Type{Kind: 77, Index: -5, Dims: 9, Ref: true}
	d := clause(1, 0, 1, 2, 3)
	d.T = api.Type{Kind: api.TObject}
	wantCheck(t, 3, []api.Clause{c, d}, 0, api.OK)
	wantCheck(t, 3, []api.Clause{c, c}, 1, api.ErrRegion)
}

// P9.1: regions of one clause that share an instruction, and that only touch.
func TestCheckOwnRegions(t *testing.T) {
	for _, x := range []struct {
		c    api.Clause
		want api.Errno
	}{
		{clause(1, 0, 2, 2, 4), api.OK},
		{clause(1, 2, 4, 0, 2), api.OK},
		{clause(1, 0, 2, 1, 4), api.ErrRegion},
		{clause(1, 1, 4, 0, 2), api.ErrRegion},
		{clause(1, 0, 4, 1, 2), api.ErrRegion},
		{clause(1, 1, 2, 0, 4), api.ErrRegion},
		{clause(1, 1, 2, 1, 2), api.ErrRegion},
		{filtered(0, 2, 2, 4, 6), api.OK},
		{filtered(0, 2, 1, 4, 6), api.ErrRegion},
		{filtered(2, 3, 0, 2, 3), api.ErrRegion},
		{filtered(2, 3, 0, 3, 4), api.ErrRegion},
		{filtered(1, 2, 0, 3, 4), api.ErrRegion},
		{filtered(0, 1, 0, 3, 4), api.ErrRegion},
		{filtered(4, 5, 0, 3, 4), api.OK},
		{filtered(3, 5, 0, 3, 4), api.ErrRegion},
		{filtered(0, 9, 2, 3, 4), api.ErrRegion},
	} {
		wantCheck(t, 9, []api.Clause{x.c}, 0, x.want)
	}
}

// P9.1: how an earlier clause may lie to a later one that tries 4 to 10, handles 14 to 20 and has its filter ahead of that.
func TestCheckFits(t *testing.T) {
	later := filtered(4, 10, 11, 14, 20)
	for _, x := range []struct {
		told    string
		earlier api.Clause
		want    api.Errno
	}{
		{"within what is tried", clause(1, 5, 6, 7, 8), api.OK},
		{"all of what is tried, between the two", clause(1, 4, 7, 7, 10), api.OK},
		{"all of what is tried, among the three", filtered(4, 6, 6, 8, 10), api.OK},
		{"within what handles", clause(3, 14, 15, 19, 20), api.OK},
		{"all of what handles", clause(3, 17, 20, 14, 17), api.OK},
		{"within the filter", clause(4, 12, 13, 13, 14), api.OK},
		{"all of the filter", clause(4, 11, 12, 12, 14), api.OK},
		{"just what is tried", clause(1, 4, 10, 10, 11), api.OK},
		{"just what handles, tried", clause(1, 14, 20, 20, 21), api.ErrRegion},
		{"just the filter, tried", clause(1, 11, 14, 10, 11), api.ErrRegion},
		{"just what is tried, handles", clause(1, 2, 4, 4, 10), api.ErrRegion},
		{"just what handles, handles", clause(1, 2, 4, 14, 20), api.ErrRegion},
		{"across the beginning of what is tried", clause(1, 3, 5, 6, 7), api.ErrRegion},
		{"across the end of what is tried", clause(1, 5, 6, 7, 11), api.ErrRegion},
		{"across the end of what handles", clause(1, 15, 16, 19, 21), api.ErrRegion},
		{"across the beginning of the filter", clause(1, 12, 13, 10, 12), api.ErrRegion},
		{"across the filter and what handles", clause(1, 13, 15, 15, 16), api.ErrRegion},
		{"in two regions", clause(1, 5, 6, 15, 16), api.ErrRegion},
		{"in what is tried and in the filter", clause(1, 5, 6, 12, 13), api.ErrRegion},
		{"in what is tried and outside", clause(1, 5, 6, 0, 2), api.ErrRegion},
		{"outside and in what is tried", clause(1, 0, 2, 5, 6), api.ErrRegion},
		{"its filter alone outside", filtered(5, 6, 10, 11, 12), api.ErrRegion},
		{"its filter alone in another region", filtered(15, 16, 13, 14, 15), api.ErrRegion},
		{"around, tried", clause(1, 0, 21, 21, 22), api.ErrRegion},
		{"around, handles", clause(1, 21, 22, 4, 20), api.ErrRegion},
		{"around what is tried", clause(1, 3, 11, 20, 22), api.ErrRegion},
		{"around by one", clause(1, 4, 11, 20, 22), api.ErrRegion},
		{"beside", clause(1, 0, 4, 10, 11), api.OK},
		{"beside, behind", clause(1, 20, 22, 0, 1), api.OK},
		{"beside, three", filtered(10, 11, 1, 2, 4), api.OK},
		{"tries the same, handles elsewhere", clause(3, 4, 10, 20, 25), api.OK},
		{"tries the same, handles the same", clause(3, 4, 10, 14, 20), api.ErrRegion},
		{"tries the same, shares one that handles", clause(3, 4, 10, 19, 25), api.ErrRegion},
		{"tries the same, handles in its filter", clause(3, 4, 10, 12, 13), api.ErrRegion},
		{"tries the same, its filter elsewhere", filtered(4, 10, 20, 22, 25), api.OK},
		{"tries the same, its filter shares", filtered(4, 10, 19, 22, 25), api.ErrRegion},
		{"tries the same, handles ahead", clause(4, 4, 10, 0, 4), api.OK},
		{"tries one less", clause(3, 4, 9, 20, 25), api.ErrRegion},
		{"tries one more", clause(3, 3, 10, 20, 25), api.ErrRegion},
		{"the very same", later, api.ErrRegion},
	} {
		want := 0
		if x.want != api.OK {
			want = 1
		}
		if i, e := Check(25, []api.Clause{x.earlier, later}); i != want || e != x.want {
			t.Error(x.told, i, e)
		}
		wantCheckAsModel(t, 25, []api.Clause{x.earlier, later})
		wantCheckAsModel(t, 25, []api.Clause{later, x.earlier})
	}
}

// P9.1: an inner clause must be the earlier one.
func TestCheckInnerFirst(t *testing.T) {
	inner, outer := clause(1, 1, 2, 2, 3), clause(3, 0, 4, 4, 5)
	wantCheck(t, 5, []api.Clause{inner, outer}, 0, api.OK)
	wantCheck(t, 5, []api.Clause{outer, inner}, 1, api.ErrRegion)
	handles := clause(3, 4, 5, 0, 4)
	wantCheck(t, 5, []api.Clause{inner, handles}, 0, api.OK)
	wantCheck(t, 5, []api.Clause{handles, inner}, 1, api.ErrRegion)
}

// P9.1: an earlier one must fit each later one, not only the next; the later one's number is told.
func TestCheckFitsAllLater(t *testing.T) {
	a, b, c := clause(1, 1, 2, 2, 3), clause(1, 6, 7, 7, 8), clause(1, 0, 2, 8, 9)
	wantCheck(t, 10, []api.Clause{a, b}, 0, api.OK)
	wantCheck(t, 10, []api.Clause{b, c}, 0, api.OK)
	wantCheck(t, 10, []api.Clause{a, b, c}, 2, api.ErrRegion)
	wantCheck(t, 10, []api.Clause{b, a, c}, 2, api.ErrRegion)
	wantCheck(t, 10, []api.Clause{b, c, a}, 2, api.ErrRegion)
	wantCheck(t, 10, []api.Clause{b, a, clause(1, 8, 9, 9, 10), clause(1, 3, 4, 4, 5), c}, 4, api.ErrRegion)
}

// P9.1: a clause's own numbers are told ahead of its regions, these and how earlier ones fit ahead of any later clause.
func TestCheckOrder(t *testing.T) {
	right := clause(1, 1, 2, 2, 3)
	numbers := clause(9, 0, 2, 1, 4)
	own := clause(3, 5, 7, 6, 8)
	misfit := clause(1, 2, 4, 5, 6)
	behind := clause(1, 2, 4, 3, 99)
	wantCheck(t, 10, []api.Clause{numbers}, 0, api.ErrRange)
	wantCheck(t, 10, []api.Clause{behind}, 0, api.ErrRange)
	wantCheck(t, 10, []api.Clause{right, behind}, 1, api.ErrRange)
	wantCheck(t, 10, []api.Clause{right, numbers, own}, 1, api.ErrRange)
	wantCheck(t, 10, []api.Clause{right, own, numbers}, 1, api.ErrRegion)
	wantCheck(t, 10, []api.Clause{own, numbers}, 0, api.ErrRegion)
	wantCheck(t, 10, []api.Clause{right, misfit, numbers}, 1, api.ErrRegion)
	wantCheck(t, 10, []api.Clause{right, numbers, misfit}, 1, api.ErrRange)
	wantCheck(t, 10, []api.Clause{right, misfit, own}, 1, api.ErrRegion)
	wantCheck(t, 10, []api.Clause{right, clause(4, 7, 8, 8, 9), own, misfit}, 2, api.ErrRegion)
	wantCheck(t, 10, []api.Clause{numbers, right, right, right, right, right, right}, 0, api.ErrFull)
	wantCheck(t, 10, []api.Clause{right, own, numbers, misfit, behind, own, right}, 0, api.ErrFull)
}

// P9.1: all numbers from -1 to behind the end, of one clause of few instructions.
func TestCheckEachClause(t *testing.T) {
	const n, wide = 3, 6
	for kind := 0; kind <= 5; kind++ {
		for x := range wide * wide * wide * wide * (wide + 1) {
			c := api.Clause{Kind: kind, TryFrom: x%wide - 1, TryTo: x/6%6 - 1, HandFrom: x/36%6 - 1, HandTo: x/216%6 - 1, Filter: x/1296 - 2}
			wantCheckAsModel(t, n, []api.Clause{c})
			if t.Failed() {
				return
			}
		}
	}
}

// P9.1: all pairs of right clauses of few instructions.
func TestCheckEachPair(t *testing.T) {
	l := rightClauses(5, 2, 3)
	if len(l) < 100 {
		t.Fatal(len(l))
	}
	for _, a := range l {
		for _, b := range l {
			wantCheckAsModel(t, 5, []api.Clause{a, b})
			if t.Failed() {
				return
			}
		}
	}
}

// nested is clauses within each other, one of them beside, with every kind: 0 lies within what 2 tries, 1 tries what 0 does, 3 lies within what 4 handles.
func nested() []api.Clause {
	return []api.Clause{
		clause(1, 1, 3, 3, 5),
		clause(3, 1, 3, 5, 6),
		filtered(1, 7, 7, 9, 11),
		clause(4, 13, 14, 14, 16),
		clause(3, 11, 12, 12, 17),
		clause(4, 0, 18, 18, 20),
	}
}

// P9.2: the chain, instruction by instruction: in no region, in one, in several, at the first and the last of a region and right behind it.
func TestChain(t *testing.T) {
	l := nested()
	wantCheck(t, 21, l, 0, api.OK)
	r := func(clause, part int) api.Region { return api.Region{Clause: clause, Part: part} }
	for at, want := range [][]api.Region{
		{r(5, 1)},
		{r(0, 1), r(2, 1), r(5, 1)},
		{r(0, 1), r(2, 1), r(5, 1)},
		{r(0, 2), r(2, 1), r(5, 1)},
		{r(0, 2), r(2, 1), r(5, 1)},
		{r(1, 2), r(2, 1), r(5, 1)},
		{r(2, 1), r(5, 1)},
		{r(2, 3), r(5, 1)},
		{r(2, 3), r(5, 1)},
		{r(2, 2), r(5, 1)},
		{r(2, 2), r(5, 1)},
		{r(4, 1), r(5, 1)},
		{r(4, 2), r(5, 1)},
		{r(3, 1), r(4, 2), r(5, 1)},
		{r(3, 2), r(4, 2), r(5, 1)},
		{r(3, 2), r(4, 2), r(5, 1)},
		{r(4, 2), r(5, 1)},
		{r(5, 1)},
		{r(5, 2)},
		{r(5, 2)},
		nil,
		nil,
	} {
		wantChain(t, l, at, want...)
	}
	wantChain(t, l, -1)
	wantChain(t, l, math.MinInt)
	wantChain(t, l, math.MaxInt)
	wantChain(t, nil, 0)
	wantChain(t, []api.Clause{}, 0)
}

// P9.2: the chapter's example.
func TestExample(t *testing.T) {
	for kind := 1; kind <= 4; kind++ {
		l := []api.Clause{clause(kind, 0, 2, 2, 4)}
		if kind == api.CFilter {
			l[0] = filtered(0, 2, 2, 3, 4)
		}
		wantChain(t, l, 1, api.Region{Clause: 0, Part: api.RTry})
		wantWays(t, l, 1, 2, false, false)
	}
}

// P9.2: of two regions that are the same instructions the earlier clause's alone, however many there are, and wherever they stand.
func TestChainOfTheSame(t *testing.T) {
	l := []api.Clause{clause(4, 5, 6, 6, 7), clause(1, 0, 3, 3, 4), clause(1, 0, 3, 4, 5), filtered(0, 3, 7, 8, 9), clause(3, 0, 9, 9, 10), clause(4, 0, 9, 10, 11)}
	wantCheck(t, 11, l, 0, api.OK)
	for at := range 3 {
		wantChain(t, l, at, api.Region{Clause: 1, Part: 1}, api.Region{Clause: 4, Part: 1})
	}
	wantChain(t, l, 4, api.Region{Clause: 2, Part: 2}, api.Region{Clause: 4, Part: 1})
	wantChain(t, l, 7, api.Region{Clause: 3, Part: 3}, api.Region{Clause: 4, Part: 1})
	wantChain(t, l, 5, api.Region{Clause: 0, Part: 1}, api.Region{Clause: 4, Part: 1})
	wantChain(t, l, 10, api.Region{Clause: 5, Part: 2})
	// Those that lie within each other needn't stand in an order by their sizes: two that are as great lie beside each other.
	wantChain(t, []api.Clause{clause(1, 0, 2, 6, 8), clause(1, 2, 4, 4, 6)}, 3, api.Region{Clause: 1, Part: 1})
}

// P9.2: the smallest comes first, and the same one once, of clauses that aren't right, too: the words ask for nothing else.
func TestChainOfAnyOrder(t *testing.T) {
	r := func(clause, part int) api.Region { return api.Region{Clause: clause, Part: part} }
	wantChain(t, []api.Clause{clause(3, 0, 9, 9, 10), clause(1, 2, 4, 5, 6), clause(1, 1, 8, 8, 9)}, 3, r(1, 1), r(2, 1), r(0, 1))
	wantChain(t, []api.Clause{clause(1, 0, 2, 9, 10), clause(1, 1, 3, 9, 10), clause(1, 8, 9, 0, 2)}, 1, r(0, 1), r(1, 1))
	wantChain(t, []api.Clause{clause(1, math.MinInt, math.MaxInt, 0, 2)}, 1, r(0, 2), r(0, 1))
	wantChain(t, []api.Clause{{Kind: 9, TryFrom: 0, TryTo: 3, HandFrom: 2, HandTo: 1}}, 1, r(0, 1))
}

// P9.2, P9.3: each way of nested, from where, to where.
func TestWays(t *testing.T) {
	l := nested()
	for _, x := range []struct {
		told        string
		from, to    int
		pass, leave bool
	}{
		{"to itself, tried", 2, 2, true, true},
		{"to itself, handles", 4, 4, true, true},
		{"to itself, handles of kind 3", 5, 5, true, true},
		{"to itself, filter", 8, 8, true, true},
		{"to itself, outside", 20, 20, true, true},
		{"back within what is tried", 2, 1, true, true},
		{"on within what handles", 3, 4, true, true},
		{"on within what handles of kind 4", 14, 15, true, true},
		{"on within the filter", 7, 8, true, true},
		{"into what is tried, at its beginning", 17, 11, true, true},
		{"into several that begin there", 0, 1, true, true},
		{"into the inner one of them", 6, 1, true, true},
		{"into the midst", 0, 2, false, false},
		{"into the midst of the outer one", 0, 6, false, false},
		{"from outside into all, at none's beginning", 20, 1, false, false},
		{"from outside to the beginning of the outermost", 20, 0, true, true},
		{"into what handles, at its beginning", 6, 3, false, false},
		{"into what handles of kind 3, at its beginning", 0, 12, false, false},
		{"into what is tried within what handles", 12, 13, true, true},
		{"into it from outside of what handles", 0, 13, false, false},
		{"into the filter, at its beginning", 0, 7, false, false},
		{"out of what is tried", 2, 6, false, true},
		{"out of several", 2, 17, false, true},
		{"out of all that is tried", 2, 20, false, true},
		{"out of what handles, kind 1", 4, 6, false, true},
		{"out of that, and of what is tried", 4, 20, false, true},
		{"out of what handles, kind 2", 10, 17, false, true},
		{"out of what handles, kind 3", 5, 6, false, false},
		{"out of what handles, kind 4", 15, 16, false, false},
		{"out of what handles, kind 4, outermost", 19, 20, false, false},
		{"out of what handles, kind 3, of what is tried first", 13, 17, false, false},
		{"out of what is tried, within what handles, kind 3", 13, 16, false, true},
		{"out of a filter", 8, 17, false, false},
		{"from the filter into what handles", 8, 9, false, false},
		{"from what is tried into its handler", 2, 3, false, false},
		{"from what is tried into its filter", 6, 7, false, false},
		{"from what handles back into what is tried, at its beginning", 4, 1, false, true},
		{"from what handles back, into its midst", 4, 2, false, false},
		{"from one clause to another, at its beginning", 10, 11, false, true},
		{"from one clause to another, into several", 11, 1, false, true},
		{"from one clause to another, its midst", 10, 13, false, false},
		{"from one handler to another", 4, 5, false, false},
		{"from what handles, kind 3, into what is tried", 5, 1, false, false},
		{"out of what is tried and in again, at its beginning", 6, 0, false, true},
		{"from the outermost's handler in", 19, 0, false, false},
	} {
		if p, q := Pass(l, x.from, x.to), Leave(l, x.from, x.to); p != x.pass || q != x.leave {
			t.Error(x.told, p, q)
		}
	}
}

// P9.2, P9.3: without clauses, and between instructions in no region, all ways are free, even outside of the code.
func TestWaysOutside(t *testing.T) {
	for _, from := range []int{math.MinInt, -1, 20, 21, 1000, math.MaxInt} {
		for _, to := range []int{math.MinInt, -1, 20, 21, 1000, math.MaxInt} {
			wantWays(t, nested(), from, to, true, true)
			wantWays(t, nil, from, to, true, true)
		}
		wantWays(t, nested(), from, 0, true, true)
		wantWays(t, nested(), from, 1, false, false)
		wantWays(t, nested(), 2, from, false, true)
		wantWays(t, nested(), 5, from, false, false)
	}
}

// P9.4: none, one, several, in order, of each kind.
func TestFinalsAndTries(t *testing.T) {
	l := []api.Clause{clause(3, 1, 3, 3, 4), clause(1, 1, 3, 4, 5), clause(3, 1, 3, 5, 6), clause(4, 0, 6, 6, 7), filtered(0, 6, 7, 8, 9), clause(3, 0, 9, 9, 10)}
	wantCheck(t, 11, l, 0, api.OK)
	wantTries(t, l, 0, 3, 4, 5)
	wantTries(t, l, 1, 0, 1, 2, 3, 4, 5)
	wantTries(t, l, 2, 0, 1, 2, 3, 4, 5)
	wantTries(t, l, 3, 3, 4, 5)
	wantTries(t, l, 5, 3, 4, 5)
	wantTries(t, l, 6, 5)
	wantTries(t, l, 8, 5)
	wantTries(t, l, 9)
	wantTries(t, l, -1)
	wantTries(t, nil, 0)
	wantFinals(t, l, 2, 10, 0, 2, 5)
	wantFinals(t, l, 2, 9, 0, 2, 5)
	wantFinals(t, l, 2, 8, 0, 2)
	wantFinals(t, l, 2, 0, 0, 2)
	wantFinals(t, l, 2, 3, 0, 2)
	wantFinals(t, l, 2, 1)
	wantFinals(t, l, 2, 2)
	wantFinals(t, l, 0, 2)
	wantFinals(t, l, 0, 6)
	wantFinals(t, l, 4, 10, 5)
	wantFinals(t, l, 0, -1, 5)
	wantFinals(t, l, 10, 2)
	wantFinals(t, l, 9, 10)
	wantFinals(t, l, -1, 2)
	wantFinals(t, nil, 0, 1)
	for kind := 1; kind <= 4; kind++ {
		c := clause(kind, 0, 1, 2, 3)
		wantTries(t, []api.Clause{c}, 0, 0)
		wantTries(t, []api.Clause{c}, 1)
		wantTries(t, []api.Clause{c}, 2)
		if kind == api.CFinally {
			wantFinals(t, []api.Clause{c}, 0, 1, 0)
		} else {
			wantFinals(t, []api.Clause{c}, 0, 1)
		}
	}
}

// wantAllAsModel wants all that is asked of right clauses, of n instructions, to be as the chapter's words have it.
func wantAllAsModel(t *testing.T, n int, l []api.Clause) {
	t.Helper()
	for from := -1; from <= n; from++ {
		wantChain(t, l, from, modelChain(l, from)...)
		wantTries(t, l, from, modelTries(l, from, -1, 1, 2, 3, 4)...)
		for to := -1; to <= n; to++ {
			wantWays(t, l, from, to, modelPass(l, from, to), modelLeave(l, from, to))
			wantFinals(t, l, from, to, modelTries(l, from, to, 3)...)
		}
	}
}

// P9.2, P9.3, P9.4: all pairs of clauses of few instructions that are right.
func TestEachRightPair(t *testing.T) {
	l := rightClauses(4, 1, 2, 3)
	pairs := 0
	for _, a := range l {
		for _, b := range l {
			if _, e := modelCheck(4, []api.Clause{a, b}); e != api.OK {
				continue
			}
			pairs++
			wantAllAsModel(t, 4, []api.Clause{a, b})
			if t.Failed() {
				return
			}
		}
	}
	if pairs < 100 {
		t.Error("too few are right", pairs)
	}
}

// P9.1 to P9.4: many clauses, put together from all that are right of some instructions, each kept if it may stand there.
func TestManyRight(t *testing.T) {
	const n = 9
	all := rightClauses(n, 1, 2, 3, 4)
	seed := uint32(1)
	next := func() api.Clause {
		seed = seed*1664525 + 1013904223
		return all[int(seed>>8)%len(all)]
	}
	deep := 0
	for range 100 {
		var l []api.Clause
		for range 400 {
			more := append(slices.Clone(l), next())
			wantCheckAsModel(t, n, more)
			if _, e := modelCheck(n, more); e == api.OK {
				l = more
			}
		}
		wantAllAsModel(t, n, l)
		for at := range n {
			deep = max(deep, len(modelChain(l, at)))
		}
		if t.Failed() {
			return
		}
	}
	if deep < 4 {
		t.Error("not deep enough", deep)
	}
}

// R1: clauses that aren't right, and too many of them: an end, and no panic.
func TestWildClauses(t *testing.T) {
	edges := []int{math.MinInt, math.MinInt + 1, -1, 0, 1, 2, math.MaxInt - 1, math.MaxInt}
	var l []api.Clause
	for i := range 5000 {
		e := func(k int) int { return edges[i*(2*k+1)/(k+1)%len(edges)] }
		l = append(l, api.Clause{Kind: e(0), TryFrom: e(1), TryTo: e(2), HandFrom: e(3), HandTo: e(4), Filter: e(5)})
	}
	for i := range 40000 {
		l = append(l, clause(1+i%4, -i, i+1, -i, i+2))
	}
	for _, l := range [][]api.Clause{l, l[:5000], l[5000:], l[5000:5007], l[:6], make([]api.Clause, 3)} {
		for _, n := range edges {
			Check(n, l)
		}
		for _, from := range []int{math.MinInt, -1, 0, 1, math.MaxInt} {
			Chain(l, from)
			Tries(l, from)
			for _, to := range []int{math.MinInt, 0, math.MaxInt} {
				Pass(l, from, to)
				Leave(l, from, to)
				Finals(l, from, to)
			}
		}
	}
}

// P9.1: wild numbers in six clauses, each ahead of a right one.
func TestCheckWild(t *testing.T) {
	edges := []int{math.MinInt, -1, 0, 1, 2, math.MaxInt}
	for x := range 6 * 6 * 6 * 6 * 6 {
		for _, kind := range []int{1, 2} {
			c := api.Clause{Kind: kind, TryFrom: edges[x%6], TryTo: edges[x/6%6], HandFrom: edges[x/36%6], HandTo: edges[x/216%6], Filter: edges[x/1296%6]}
			i, e := Check(2, []api.Clause{clause(3, 0, 1, 1, 2), c})
			switch {
			case !modelNumbers(2, c):
				if i != 1 || e != api.ErrRange {
					t.Error(c, i, e)
				}
			default:
				wantCheckAsModel(t, 2, []api.Clause{clause(3, 0, 1, 1, 2), c})
			}
		}
	}
}

func spoil[T any](l []T, x T) {
	l = l[:cap(l)]
	for i := range l {
		l[i] = x
	}
}

// R4: what is handed in stays as it was, spare room included; what is answered is new memory.
func TestFreshMemory(t *testing.T) {
	mark := api.Clause{Kind: 77}
	made := func() []api.Clause { return append(make([]api.Clause, 0, 20), nested()...) }
	l, same := made(), made()
	spoil(l[6:], mark)
	spoil(same[6:], mark)
	Check(21, l)
	Check(3, l)
	Pass(l, 2, 6)
	Leave(l, 2, 6)
	chain, again := Chain(l, 2), Chain(l, 2)
	tries, tries2 := Tries(l, 2), Tries(l, 2)
	finals, finals2 := Finals(l, 2, 20), Finals(l, 2, 20)
	if !slices.Equal(l[:cap(l)], same[:cap(same)]) {
		t.Error("changed", l[:cap(l)])
	}
	spoil(l, mark)
	spoil(chain, api.Region{Clause: 9, Part: 9})
	spoil(tries, 9)
	spoil(finals, 9)
	if !slices.Equal(again, []api.Region{{Clause: 0, Part: 1}, {Clause: 2, Part: 1}, {Clause: 5, Part: 1}}) {
		t.Error("shared", again)
	}
	if !slices.Equal(tries2, []int{0, 1, 2, 5}) || !slices.Equal(finals2, []int{1}) {
		t.Error("shared", tries2, finals2)
	}
}
