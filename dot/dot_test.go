package dot

import (
	"math"
	"reflect"
	"slices"
	"testing"

	"viewmere/api"
)

// d: a dot, in short.
func d(node, seq int) api.Dot { return api.Dot{Node: node, Seq: seq} }

// context: a context, in short.
func context(clock [api.Nodes]int, cloud ...api.Dot) api.Context {
	return api.Context{Clock: clock, Cloud: cloud}
}

// same: are two contexts the same, an empty cloud being as good as none?
func same(a, b api.Context) bool {
	return a.Clock == b.Clock && slices.Equal(a.Cloud, b.Cloud)
}

// gaps: n dots of node, from first on, each two above the one ahead.
func gaps(node, first, n int) []api.Dot {
	l := []api.Dot{}
	for i := range n {
		l = append(l, d(node, first+2*i))
	}
	return l
}

// broken: contexts that Check refuses, and why.
func broken() []struct {
	c    api.Context
	want api.Errno
} {
	many := gaps(0, 3, api.MaxDots+1)
	unright := slices.Repeat([]api.Dot{d(9, 0)}, api.MaxDots+1)
	return []struct {
		c    api.Context
		want api.Errno
	}{
		{context([4]int{-1}), api.ErrArg},
		{context([4]int{0, 0, 0, -1}), api.ErrArg},
		{context([4]int{0, math.MinInt}), api.ErrArg},
		{context([4]int{api.MaxSeq + 1}), api.ErrArg},
		{context([4]int{0, 0, 0, math.MaxInt}), api.ErrArg},
		{context([4]int{math.MaxInt}, d(0, 1)), api.ErrArg},
		{context([4]int{0, -1}, many...), api.ErrArg},
		{context([4]int{}, many...), api.ErrLarge},
		{context([4]int{}, unright...), api.ErrLarge},
		{context([4]int{}, d(-1, 2)), api.ErrForm},
		{context([4]int{}, d(4, 2)), api.ErrForm},
		{context([4]int{}, d(math.MinInt, 2)), api.ErrForm},
		{context([4]int{}, d(math.MaxInt, 2)), api.ErrForm},
		{context([4]int{}, d(0, 0)), api.ErrForm},
		{context([4]int{}, d(0, math.MinInt)), api.ErrForm},
		{context([4]int{}, d(0, api.MaxSeq+1)), api.ErrForm},
		{context([4]int{}, d(0, 1)), api.ErrForm},
		{context([4]int{5}, d(0, 4)), api.ErrForm},
		{context([4]int{5}, d(0, 5)), api.ErrForm},
		{context([4]int{5}, d(0, 6)), api.ErrForm},
		{context([4]int{0, 0, 0, 7}, d(1, 9), d(3, 8)), api.ErrForm},
		{context([4]int{api.MaxSeq}, d(0, api.MaxSeq)), api.ErrForm},
		{context([4]int{api.MaxSeq - 1}, d(0, api.MaxSeq)), api.ErrForm},
		{context([4]int{}, d(0, 3), d(0, 3)), api.ErrForm},
		{context([4]int{}, d(0, 5), d(0, 3)), api.ErrForm},
		{context([4]int{}, d(1, 3), d(0, 5)), api.ErrForm},
		{context([4]int{}, d(0, 3), d(1, 3), d(1, 2)), api.ErrForm},
	}
}

// P3: Check takes what is right, to the edges.
func TestCheckTakes(t *testing.T) {
	for _, c := range []api.Context{
		{},
		context([4]int{}, []api.Dot{}...),
		context([4]int{1, 2, 3, 4}),
		context([4]int{api.MaxSeq, api.MaxSeq, api.MaxSeq, api.MaxSeq}),
		context([4]int{}, d(0, 2)),
		context([4]int{}, d(0, api.MaxSeq), d(3, api.MaxSeq)),
		context([4]int{api.MaxSeq - 2}, d(0, api.MaxSeq)),
		context([4]int{5}, d(0, 7), d(0, 8), d(1, 2), d(3, 2)),
		context([4]int{}, d(0, 9), d(1, 3)),
		context([4]int{}, gaps(2, 2, api.MaxDots)...),
	} {
		if e := Check(c); e != api.OK {
			t.Error(c, e)
		}
	}
}

// P3: Check refuses what isn't right, by the error that is told first.
func TestCheckRefuses(t *testing.T) {
	for _, x := range broken() {
		if e := Check(x.c); e != x.want {
			t.Error(x.c, e, x.want)
		}
	}
}

// P3: a right context has what is up to its clock, and what is in its cloud.
func TestHas(t *testing.T) {
	c := context([4]int{2, 0, 0, api.MaxSeq}, d(0, 5), d(1, 2))
	for _, x := range []api.Dot{d(0, 1), d(0, 2), d(0, 5), d(1, 2), d(3, 1), d(3, api.MaxSeq)} {
		if !Has(c, x) {
			t.Error(x)
		}
	}
	for _, x := range []api.Dot{
		d(0, 0), d(0, -1), d(0, 3), d(0, 4), d(0, 6), d(1, 1), d(1, 3), d(2, 1), d(2, 2),
		d(3, 0), d(3, api.MaxSeq+1), d(-1, 1), d(4, 1), d(math.MinInt, 1), d(math.MaxInt, 1),
		d(0, math.MinInt), d(0, math.MaxInt),
	} {
		if Has(c, x) {
			t.Error(x)
		}
	}
}

// P3: Has answers by the same words of a context that Check refuses.
func TestHasOfAnyContext(t *testing.T) {
	wild := context([4]int{-3, math.MaxInt, math.MinInt}, d(7, -1), d(0, 9), d(0, 4), d(0, 0), d(0, 9))
	for _, x := range []api.Dot{d(7, -1), d(0, 9), d(0, 4), d(0, 0), d(1, 1), d(1, math.MaxInt)} {
		if !Has(wild, x) {
			t.Error(x)
		}
	}
	for _, x := range []api.Dot{d(7, 1), d(0, -3), d(0, -5), d(0, 1), d(1, 0), d(1, -1), d(2, math.MinInt), d(2, 1)} {
		if Has(wild, x) {
			t.Error(x)
		}
	}
	long := context([4]int{}, gaps(0, 3, 3*api.MaxDots)...)
	if last := long.Cloud[3*api.MaxDots-1]; !Has(long, last) || Has(long, d(0, last.Seq+1)) {
		t.Error(last)
	}
}

// P4: Make of dots in any order, and twice.
func TestMake(t *testing.T) {
	for _, x := range []struct {
		l    []api.Dot
		want api.Context
	}{
		{nil, api.Context{}},
		{[]api.Dot{}, api.Context{}},
		{[]api.Dot{d(0, 1), d(0, 2), d(1, 3)}, context([4]int{2}, d(1, 3))},
		{[]api.Dot{d(0, 3), d(0, 1), d(0, 2)}, context([4]int{3})},
		{[]api.Dot{d(3, 1), d(0, 1), d(3, 1), d(0, 1)}, context([4]int{1, 0, 0, 1})},
		{[]api.Dot{d(2, 4), d(2, 4), d(1, 9), d(2, 4)}, context([4]int{}, d(1, 9), d(2, 4))},
		{[]api.Dot{d(0, api.MaxSeq), d(0, 1)}, context([4]int{1}, d(0, api.MaxSeq))},
		{gaps(1, 2, api.MaxDots), context([4]int{}, gaps(1, 2, api.MaxDots)...)},
	} {
		if c, e := Make(x.l); e != api.OK || !same(c, x.want) || Check(c) != api.OK {
			t.Error(x.l, c, e)
		}
	}
}

// P4: Make counts what it is given, twice or not, ahead of looking at it.
func TestMakeRefuses(t *testing.T) {
	for _, x := range []struct {
		l    []api.Dot
		want api.Errno
	}{
		{gaps(0, 1, api.MaxDots+1), api.ErrLarge},
		{slices.Repeat([]api.Dot{d(0, 1)}, api.MaxDots+1), api.ErrLarge},
		{slices.Repeat([]api.Dot{d(0, 0)}, api.MaxDots+1), api.ErrLarge},
		{slices.Repeat([]api.Dot{d(0, 0)}, api.MaxDots), api.ErrForm},
		{[]api.Dot{d(0, 1), d(0, 0)}, api.ErrForm},
		{[]api.Dot{d(-1, 1)}, api.ErrForm},
		{[]api.Dot{d(4, 1), d(0, 1)}, api.ErrForm},
		{[]api.Dot{d(3, api.MaxSeq+1)}, api.ErrForm},
		{[]api.Dot{d(math.MinInt, math.MinInt)}, api.ErrForm},
		{[]api.Dot{d(math.MaxInt, math.MaxInt)}, api.ErrForm},
	} {
		if c, e := Make(x.l); e != x.want || !reflect.DeepEqual(c, api.Context{}) {
			t.Error(x.l, c, e, x.want)
		}
	}
}

// The dots that the tests of all sets are made of: two nodes, four dots each.
func universe() []api.Dot {
	return []api.Dot{d(0, 1), d(0, 2), d(0, 3), d(0, 4), d(3, 1), d(3, 2), d(3, 3), d(3, 4)}
}

// pick: those dots of the universe whose bits are set.
func pick(set int) []api.Dot {
	var l []api.Dot
	for i, x := range universe() {
		if set>>i&1 == 1 {
			l = append(l, x)
		}
	}
	return l
}

// contexts: the context of each set of the universe.
func contexts(t *testing.T) []api.Context {
	var l []api.Context
	for set := range 1 << len(universe()) {
		dots := pick(set)
		slices.Reverse(dots)
		c, e := Make(dots)
		if e != api.OK || Check(c) != api.OK {
			t.Fatal(set, c, e)
		}
		l = append(l, c)
	}
	return l
}

// P3, P4: the context of each set has just its dots, and Next is behind them.
func TestEachSet(t *testing.T) {
	for set, c := range contexts(t) {
		var greatest [api.Nodes]int
		for i, x := range universe() {
			in := set>>i&1 == 1
			if Has(c, x) != in {
				t.Error(set, c, x)
			}
			if in {
				greatest[x.Node] = x.Seq
			}
		}
		for node, seq := range greatest {
			if x, e := Next(c, node); e != api.OK || x != d(node, seq+1) {
				t.Error(c, node, x, e)
			}
		}
	}
}

// P4: Join, Less and Minus of each two sets.
func TestEachTwoSets(t *testing.T) {
	all := contexts(t)
	for i, a := range all {
		for j, b := range all {
			if c, e := Join(a, b); e != api.OK || !same(c, all[i|j]) {
				t.Fatal("Join", a, b, c, e)
			}
			if is, e := Less(a, b); e != api.OK || is != (i&^j == 0) {
				t.Fatal("Less", a, b, is, e)
			}
			if l, e := Minus(a, b); e != api.OK || !slices.Equal(l, pick(i&^j)) {
				t.Fatal("Minus", a, b, l, e)
			}
		}
	}
}

// P4: Join tells ErrLarge of what the cloud would be in the end, not of what goes in.
func TestJoinAtTheLimit(t *testing.T) {
	half := api.MaxDots / 2
	a := context([4]int{}, gaps(0, 3, half)...)
	if c, e := Join(a, context([4]int{}, gaps(1, 3, half)...)); e != api.OK || len(c.Cloud) != api.MaxDots {
		t.Error(c, e)
	}
	c, e := Join(a, context([4]int{}, gaps(1, 3, half+1)...))
	if e != api.ErrLarge || !reflect.DeepEqual(c, api.Context{}) {
		t.Error(c, e)
	}
	full := context([4]int{}, gaps(2, 2, api.MaxDots)...)
	if c, e := Join(full, full); e != api.OK || !same(c, full) {
		t.Error(c, e)
	}
	odd, _ := Make(gaps(2, 1, api.MaxDots))
	if c, e := Join(full, odd); e != api.OK || !same(c, context([4]int{0, 0, 2 * api.MaxDots})) {
		t.Error(c, e)
	}
	if c, e := Join(full, context([4]int{0, 0, api.MaxSeq})); e != api.OK || !same(c, context([4]int{0, 0, api.MaxSeq})) {
		t.Error(c, e)
	}
	if c, e := Join(context([4]int{api.MaxSeq - 2}, d(0, api.MaxSeq)), context([4]int{api.MaxSeq - 1})); e != api.OK || c.Clock[0] != api.MaxSeq || len(c.Cloud) != 0 {
		t.Error(c, e)
	}
}

// P4: Less has an answer, however large both are together.
func TestLessOfLarge(t *testing.T) {
	a := context([4]int{}, gaps(0, 2, api.MaxDots)...)
	b := context([4]int{}, gaps(1, 2, api.MaxDots)...)
	top := context([4]int{api.MaxSeq, api.MaxSeq, api.MaxSeq, api.MaxSeq})
	for _, x := range []struct {
		a, b api.Context
		want bool
	}{
		{a, b, false}, {a, a, true}, {a, top, true}, {top, a, false}, {top, top, true}, {api.Context{}, b, true},
	} {
		if is, e := Less(x.a, x.b); e != api.OK || is != x.want {
			t.Error(x.a, x.b, is, e)
		}
	}
}

// P4: Next at its edges, with the error that is told first.
func TestNext(t *testing.T) {
	for _, x := range []struct {
		c    api.Context
		node int
		want api.Dot
		e    api.Errno
	}{
		{api.Context{}, 0, d(0, 1), api.OK},
		{api.Context{}, 3, d(3, 1), api.OK},
		{context([4]int{4}, d(0, 6), d(0, 9), d(1, 20)), 0, d(0, 10), api.OK},
		{context([4]int{4}, d(1, 20)), 0, d(0, 5), api.OK},
		{context([4]int{api.MaxSeq - 1}), 0, d(0, api.MaxSeq), api.OK},
		{context([4]int{api.MaxSeq}), 0, api.Dot{}, api.ErrLarge},
		{context([4]int{api.MaxSeq}), 1, d(1, 1), api.OK},
		{context([4]int{}, d(2, api.MaxSeq)), 2, api.Dot{}, api.ErrLarge},
		{context([4]int{}, d(2, api.MaxSeq-1)), 2, d(2, api.MaxSeq), api.OK},
		{api.Context{}, -1, api.Dot{}, api.ErrArg},
		{api.Context{}, 4, api.Dot{}, api.ErrArg},
		{api.Context{}, math.MinInt, api.Dot{}, api.ErrArg},
		{api.Context{}, math.MaxInt, api.Dot{}, api.ErrArg},
		{context([4]int{api.MaxSeq}), 4, api.Dot{}, api.ErrArg},
		{context([4]int{}, d(0, 1)), 4, api.Dot{}, api.ErrForm},
	} {
		if got, e := Next(x.c, x.node); e != x.e || got != x.want {
			t.Error(x.c, x.node, got, e)
		}
	}
}

// P4: Minus counts what is missing, however far the clocks are apart.
func TestMinusAtTheLimit(t *testing.T) {
	for _, x := range []struct {
		a, b api.Context
		n    int
	}{
		{context([4]int{api.MaxDots}), api.Context{}, api.MaxDots},
		{context([4]int{api.MaxDots - 1}, d(2, 5)), api.Context{}, api.MaxDots},
		{context([4]int{100, 100, 100, 100}), api.Context{}, api.MaxDots},
		{context([4]int{2 * api.MaxDots}), context([4]int{}, gaps(0, 2, api.MaxDots)...), api.MaxDots},
		{context([4]int{api.MaxSeq}), context([4]int{api.MaxSeq - api.MaxDots}), api.MaxDots},
		{context([4]int{}, gaps(3, 2, api.MaxDots)...), api.Context{}, api.MaxDots},
		{context([4]int{}, slices.Concat([]api.Dot{d(0, 2)}, gaps(1, 2, api.MaxDots-1))...), api.Context{}, api.MaxDots},
		{context([4]int{api.MaxSeq, api.MaxSeq}), context([4]int{api.MaxSeq, api.MaxSeq}), 0},
		{api.Context{}, context([4]int{api.MaxSeq, api.MaxSeq}), 0},
	} {
		l, e := Minus(x.a, x.b)
		if e != api.OK || len(l) != x.n || !slices.IsSortedFunc(l, Order) {
			t.Error(x.a, x.b, l, e)
		}
	}
	for _, x := range [][2]api.Context{
		{context([4]int{api.MaxDots + 1}), {}},
		{context([4]int{api.MaxDots}, d(2, 5)), {}},
		{context([4]int{100, 100, 100, 101}), {}},
		{context([4]int{2*api.MaxDots + 1}), context([4]int{}, gaps(0, 2, api.MaxDots-1)...)},
		{context([4]int{api.MaxSeq, api.MaxSeq, api.MaxSeq, api.MaxSeq}), {}},
		{context([4]int{0, 0, 0, api.MaxSeq}), context([4]int{}, gaps(3, api.MaxSeq-2*api.MaxDots+1, api.MaxDots)...)},
	} {
		if l, e := Minus(x[0], x[1]); e != api.ErrLarge || l != nil {
			t.Error(x, l, e)
		}
	}
}

// P4: the calls of two contexts tell Check's error of the first one ahead of the second one's,
// and nothing beside it.
func TestErrorsOfTwo(t *testing.T) {
	fine := context([4]int{3}, d(1, 4))
	for _, x := range broken() {
		refused(t, x.c, fine, x.want)
		refused(t, fine, x.c, x.want)
		for _, y := range broken() {
			refused(t, x.c, y.c, x.want)
		}
	}
}

// refused: Join, Less and Minus tell want of a and b.
func refused(t *testing.T, a, b api.Context, want api.Errno) {
	t.Helper()
	if c, e := Join(a, b); e != want || !reflect.DeepEqual(c, api.Context{}) {
		t.Error("Join", a, b, c, e, want)
	}
	if is, e := Less(a, b); e != want || is {
		t.Error("Less", a, b, is, e, want)
	}
	if l, e := Minus(a, b); e != want || l != nil {
		t.Error("Minus", a, b, l, e, want)
	}
}

// P4: Next tells Check's error.
func TestNextOfBroken(t *testing.T) {
	for _, x := range broken() {
		for _, node := range []int{0, 3, -1, 4} {
			if got, e := Next(x.c, node); e != x.want || got != (api.Dot{}) {
				t.Error(x.c, node, got, e)
			}
		}
	}
}

// P1: no call panics, whatever it is given.
func TestNoPanic(t *testing.T) {
	numbers := []int{math.MinInt, math.MinInt + 1, -1, 0, 1, 3, 4, api.MaxSeq, api.MaxSeq + 1, math.MaxInt - 1, math.MaxInt}
	var dots []api.Dot
	var all []api.Context
	for _, m := range numbers {
		for _, n := range numbers {
			dots = append(dots, d(m, n))
			all = append(all, context([4]int{m, n, n, m}, d(n, m), d(m, n)), context([4]int{n}, d(0, m)))
		}
	}
	for _, a := range all {
		Check(a)
		for _, x := range dots {
			Has(a, x)
			Make([]api.Dot{x, d(1, 1)})
		}
		for _, n := range numbers {
			Next(a, n)
		}
		for _, b := range all {
			Join(a, b)
			Less(a, b)
			Minus(a, b)
		}
	}
	Make(dots)
}

// roomy: a list with the same dots, and with room behind them that is written full.
func roomy(l []api.Dot) []api.Dot {
	big := append(slices.Clone(l), d(-7, -7), d(-7, -7), d(-7, -7), d(-7, -7))
	return big[:len(l)]
}

// scrawl: writes over a list and the room behind it.
func scrawl(l []api.Dot) {
	l = l[:cap(l)]
	for i := range l {
		l[i] = d(-9, -9)
	}
}

// P2: nothing that is handed in is changed, and no answer shares memory with it or with another answer.
func TestMemory(t *testing.T) {
	first := []api.Dot{d(1, 9), d(0, 6), d(0, 1), d(0, 6)}
	second := []api.Dot{d(0, 8), d(2, 4)}
	for _, x := range []struct {
		name string
		call func(a, b []api.Dot) []api.Dot
		a, b []api.Dot
		want []api.Dot
	}{
		{"Make", func(a, b []api.Dot) []api.Dot { c, _ := Make(a); return c.Cloud }, first, nil, []api.Dot{d(0, 6), d(1, 9)}},
		{"Make of right ones", func(a, b []api.Dot) []api.Dot { c, _ := Make(a); return c.Cloud }, second, nil, second},
		{"Join", joinClouds, []api.Dot{d(0, 6), d(1, 9)}, second, []api.Dot{d(0, 6), d(0, 8), d(1, 9), d(2, 4)}},
		{"Join with none", joinClouds, second, nil, second},
		{"Join to none", joinClouds, nil, second, second},
		{"Minus", minusClouds, second, []api.Dot{d(2, 4)}, []api.Dot{d(0, 8)}},
		{"Minus none", minusClouds, second, nil, second},
	} {
		a, b := roomy(x.a), roomy(x.b)
		wholeA, wholeB := slices.Clone(a[:cap(a)]), slices.Clone(b[:cap(b)])
		one, two := x.call(a, b), x.call(a, b)
		if !slices.Equal(one, x.want) || !slices.Equal(two, x.want) {
			t.Error(x.name, one, two)
		}
		scrawl(one)
		if !slices.Equal(two, x.want) {
			t.Error(x.name, "shares with another answer", two)
		}
		if !slices.Equal(a[:cap(a)], wholeA) || !slices.Equal(b[:cap(b)], wholeB) {
			t.Error(x.name, "changes what is handed in, or shares it", a, b)
		}
		scrawl(a)
		scrawl(b)
		if !slices.Equal(two, x.want) {
			t.Error(x.name, "keeps what was handed in", two)
		}
		if three := x.call(roomy(x.a), roomy(x.b)); !slices.Equal(three, x.want) {
			t.Error(x.name, "hangs on earlier calls", three)
		}
	}
}

// joinClouds: Join's cloud of two clouds.
func joinClouds(a, b []api.Dot) []api.Dot {
	c, _ := Join(context([4]int{}, a...), context([4]int{}, b...))
	return c.Cloud
}

// minusClouds: Minus of two clouds.
func minusClouds(a, b []api.Dot) []api.Dot {
	l, _ := Minus(context([4]int{}, a...), context([4]int{}, b...))
	return l
}

// P2: the calls whose answers have no list leave alone what they are given, too.
func TestMemoryOfAsking(t *testing.T) {
	a, b := roomy([]api.Dot{d(0, 6), d(1, 9)}), roomy([]api.Dot{d(0, 6), d(0, 8), d(1, 9)})
	wholeA, wholeB := slices.Clone(a[:cap(a)]), slices.Clone(b[:cap(b)])
	x, y := context([4]int{}, a...), context([4]int{}, b...)
	Check(x)
	Has(x, d(1, 9))
	Less(x, y)
	Next(y, 0)
	if !slices.Equal(a[:cap(a)], wholeA) || !slices.Equal(b[:cap(b)], wholeB) {
		t.Error(a, b)
	}
}
