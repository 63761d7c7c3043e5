package stable

import (
	"math"
	"reflect"
	"slices"
	"testing"

	"viewmere/api"
	"viewmere/dot"
	"viewmere/table"
)

const top = api.MaxSeq

type contexts = []api.Context

// d: a dot, in short.
func d(node, seq int) api.Dot { return api.Dot{Node: node, Seq: seq} }

// context: a context, in short.
func context(clock [api.Nodes]int, cloud ...api.Dot) api.Context {
	return api.Context{Clock: clock, Cloud: cloud}
}

// cellAt: a cell at a dot; which one it is can be told from its value.
func cellAt(x api.Dot) api.Cell {
	return api.Cell{Dot: x, Key: x.Node, Col: x.Node % api.Cols, Value: x.Seq % api.MaxValue}
}

// cellsAt: a cell at each of the dots.
func cellsAt(l ...api.Dot) []api.Cell {
	var cells []api.Cell
	for _, x := range l {
		cells = append(cells, cellAt(x))
	}
	return cells
}

// gaps: n dots of node, from first on, each two above the one ahead.
func gaps(node, first, n int) []api.Dot {
	var l []api.Dot
	for i := range n {
		l = append(l, d(node, first+2*i))
	}
	return l
}

// same: are two contexts the same, an empty cloud being as good as none?
func same(a, b api.Context) bool {
	return a.Clock == b.Clock && slices.Equal(a.Cloud, b.Cloud)
}

// want: the context that is told.
func want(t *testing.T, l contexts, c api.Context) {
	t.Helper()
	got, e := Meet(l)
	if e != api.OK || !same(got, c) || dot.Check(got) != api.OK {
		t.Errorf("%v: %v %v, not %v", l, got, e, c)
	}
}

// refuse: the error that is told by both calls, and nothing beside it.
func refuse(t *testing.T, l contexts, e api.Errno) {
	t.Helper()
	if c, got := Meet(l); got != e || !reflect.DeepEqual(c, api.Context{}) {
		t.Errorf("%v: %v %v, not %v", l, c, got, e)
	}
	for _, x := range []api.Table{{}, {Context: context([4]int{1}), Cells: cellsAt(d(0, 1))}} {
		refuseTable(t, x, l, e)
	}
}

// refuseTable: the error that Settled tells, and nothing beside it.
func refuseTable(t *testing.T, x api.Table, l contexts, e api.Errno) {
	t.Helper()
	if cells, got := Settled(x, l); got != e || cells != nil {
		t.Errorf("%v of %v: %v %v, not %v", l, x, cells, got, e)
	}
}

// wantCells: the cells that are told.
func wantCells(t *testing.T, x api.Table, l contexts, cells ...api.Cell) {
	t.Helper()
	got, e := Settled(x, l)
	if e != api.OK || !slices.Equal(got, cells) {
		t.Errorf("%v of %v: %v %v, not %v", l, x, got, e, cells)
	}
}

// P15: what all have, of clocks and of clouds.
func TestMeet(t *testing.T) {
	a := context([4]int{3, 1}, d(1, 3), d(2, 2))
	b := context([4]int{2, 3}, d(2, 2))
	want(t, contexts{a, b}, context([4]int{2, 1}, d(1, 3), d(2, 2)))
	want(t, contexts{b, a}, context([4]int{2, 1}, d(1, 3), d(2, 2)))
	want(t, contexts{a, b, a, b}, context([4]int{2, 1}, d(1, 3), d(2, 2)))
	want(t, contexts{a, b, context([4]int{0, 9, 1})}, context([4]int{0, 1}, d(1, 3)))
	want(t, contexts{a, b, context([4]int{9, 0, 9, 9}, d(1, 3))}, context([4]int{2}, d(1, 3), d(2, 2)))
	want(t, contexts{a, b, {}}, api.Context{})
	want(t, contexts{{}, a, b}, api.Context{})
}

// P15: of one context, what it has.
func TestMeetOne(t *testing.T) {
	for _, c := range []api.Context{
		{},
		context([4]int{}, []api.Dot{}...),
		context([4]int{1, 2, 3, 4}),
		context([4]int{top, top, top, top}),
		context([4]int{top - 2, 5}, d(0, top), d(1, 7), d(1, 8), d(3, 2)),
		context([4]int{}, gaps(2, 2, api.MaxDots)...),
	} {
		want(t, contexts{c}, c)
		want(t, contexts{c, c}, c)
		want(t, contexts{c, context([4]int{top, top, top, top})}, c)
		want(t, contexts{{}, c}, api.Context{})
	}
}

// P15: a cloud beyond another one's clock, up to it, and right behind it.
func TestMeetAtTheClock(t *testing.T) {
	cloudy := context([4]int{1}, d(0, 3), d(0, 4), d(0, 6), d(0, 9))
	for _, x := range []struct {
		seq  int
		want api.Context
	}{
		{0, api.Context{}},
		{1, context([4]int{1})},
		{2, context([4]int{1})},
		{3, context([4]int{1}, d(0, 3))},
		{4, context([4]int{1}, d(0, 3), d(0, 4))},
		{5, context([4]int{1}, d(0, 3), d(0, 4))},
		{6, context([4]int{1}, d(0, 3), d(0, 4), d(0, 6))},
		{8, context([4]int{1}, d(0, 3), d(0, 4), d(0, 6))},
		{9, cloudy},
		{top, cloudy},
	} {
		want(t, contexts{cloudy, context([4]int{x.seq})}, x.want)
		want(t, contexts{context([4]int{x.seq}), cloudy}, x.want)
	}
	want(t, contexts{cloudy, context([4]int{3}, d(0, 6), d(0, 8), d(0, 9))}, context([4]int{1}, d(0, 3), d(0, 6), d(0, 9)))
	want(t, contexts{context([4]int{top - 2}, d(0, top)), context([4]int{top})}, context([4]int{top - 2}, d(0, top)))
	want(t, contexts{context([4]int{top - 2}, d(0, top)), context([4]int{top - 1})}, context([4]int{top - 2}))
}

// P15: the same number of another node is another dot.
func TestMeetOfOtherNodes(t *testing.T) {
	want(t, contexts{context([4]int{}, d(0, 5)), context([4]int{}, d(1, 5))}, api.Context{})
	want(t, contexts{context([4]int{}, d(0, 5)), context([4]int{0, 5, 5, 5})}, api.Context{})
	want(t, contexts{context([4]int{9, 0, 9}, d(1, 5), d(3, 5)), context([4]int{0, 9, 0, 9}, d(0, 5), d(2, 5))},
		context([4]int{}, d(0, 5), d(1, 5), d(2, 5), d(3, 5)))
}

// P15: what counts is the cloud that all have, not the clouds that go in, nor what some of them have.
func TestMeetAtTheLimit(t *testing.T) {
	one := context([4]int{0, top}, gaps(0, 2, 400)...)
	two := func(n int) api.Context { return context([4]int{top}, gaps(1, 2, n)...) }
	refuse(t, contexts{one, two(1)}, api.ErrLarge)
	refuse(t, contexts{two(1), one}, api.ErrLarge)
	refuse(t, contexts{one, two(400)}, api.ErrLarge)
	want(t, contexts{one, two(0)}, context([4]int{}, gaps(0, 2, 400)...))
	half := context([4]int{0, top}, gaps(0, 2, 200)...)
	want(t, contexts{half, two(200)}, context([4]int{}, slices.Concat(gaps(0, 2, 200), gaps(1, 2, 200))...))
	refuse(t, contexts{half, two(201)}, api.ErrLarge)
	want(t, contexts{one, two(400), context([4]int{0, 4})}, context([4]int{}, d(1, 2), d(1, 4)))
	want(t, contexts{one, two(400), {}}, api.Context{})
	want(t, contexts{one, two(400), context([4]int{799, 1})}, context([4]int{}, gaps(0, 2, 399)...))
	refuse(t, contexts{one, two(400), context([4]int{800, 2})}, api.ErrLarge)
}

// P15: the most that all may have: each node's cloud is of another one.
func TestMeetOfFourClouds(t *testing.T) {
	var l contexts
	var dots []api.Dot
	for node := range api.Nodes {
		c := context([4]int{top, top, top, top}, gaps(node, 2, 100)...)
		c.Clock[node] = 0
		l = append(l, c)
		dots = append(dots, c.Cloud...)
	}
	want(t, l, context([4]int{}, dots...))
	slices.Reverse(l)
	want(t, l, context([4]int{}, dots...))
	l[2].Cloud = append(l[2].Cloud, d(l[2].Cloud[0].Node, top))
	refuse(t, l, api.ErrLarge)
}

// P15: many contexts, the last one of which has less.
func TestMeetOfMany(t *testing.T) {
	c := context([4]int{5, 5}, d(0, 7), d(1, 9))
	l := slices.Repeat(contexts{c}, 5000)
	want(t, l, c)
	l[4999] = context([4]int{8, 4})
	want(t, l, context([4]int{5, 4}, d(0, 7)))
}

// broken: contexts that dot.Check refuses, and why.
func broken() []struct {
	c    api.Context
	want api.Errno
} {
	return []struct {
		c    api.Context
		want api.Errno
	}{
		{context([4]int{-1}), api.ErrArg},
		{context([4]int{0, 0, 0, top + 1}), api.ErrArg},
		{context([4]int{math.MinInt, math.MaxInt}, d(9, 9)), api.ErrArg},
		{context([4]int{}, gaps(0, 3, api.MaxDots+1)...), api.ErrLarge},
		{context([4]int{}, make([]api.Dot, api.MaxDots+1)...), api.ErrLarge},
		{context([4]int{}, d(-1, 2)), api.ErrForm},
		{context([4]int{}, d(4, 2)), api.ErrForm},
		{context([4]int{}, d(0, 1)), api.ErrForm},
		{context([4]int{5}, d(0, 6)), api.ErrForm},
		{context([4]int{}, d(0, top+1)), api.ErrForm},
		{context([4]int{}, d(0, 3), d(0, 3)), api.ErrForm},
		{context([4]int{}, d(1, 3), d(0, 5)), api.ErrForm},
	}
}

// P15: no context at all; a wrong one, wherever it stands; of several the first one's error.
func TestWrongContexts(t *testing.T) {
	refuse(t, nil, api.ErrArg)
	refuse(t, contexts{}, api.ErrArg)
	fine := context([4]int{2}, d(1, 7))
	one, two := context([4]int{0, top}, gaps(0, 2, 400)...), context([4]int{top}, gaps(1, 2, 400)...)
	for _, x := range broken() {
		refuse(t, contexts{x.c}, x.want)
		refuse(t, contexts{x.c, fine}, x.want)
		refuse(t, contexts{fine, {}, x.c}, x.want)
		refuse(t, contexts{one, two, x.c}, x.want)
		for _, y := range broken() {
			refuse(t, contexts{fine, x.c, y.c}, x.want)
		}
	}
}

// P15: the cells whose dots all have, by clock or by cloud, in order.
func TestSettled(t *testing.T) {
	x := api.Table{
		Context: context([4]int{4, 4}, d(1, 7), d(2, 2), d(3, 5)),
		Cells:   cellsAt(d(0, 1), d(0, 3), d(0, 4), d(1, 2), d(1, 7), d(2, 2), d(3, 5)),
	}
	wantCells(t, x, contexts{x.Context}, x.Cells...)
	wantCells(t, x, contexts{context([4]int{top, top, top, top})}, x.Cells...)
	wantCells(t, x, contexts{{}})
	wantCells(t, x, contexts{x.Context, {}, x.Context})
	wantCells(t, x, contexts{context([4]int{3, 9, 1})}, cellsAt(d(0, 1), d(0, 3), d(1, 2), d(1, 7))...)
	wantCells(t, x, contexts{context([4]int{0, 1}, d(0, 3), d(0, 4), d(1, 7), d(3, 4)), context([4]int{3, 9, 9, 9})}, cellsAt(d(0, 3), d(1, 7))...)
	wantCells(t, x, contexts{context([4]int{0, 0, 9, 4}, d(3, 6)), context([4]int{9, 9, 1, 9}, d(2, 3))})
	wantCells(t, api.Table{Context: x.Context}, contexts{x.Context})
	wantCells(t, api.Table{}, contexts{x.Context})
	wantCells(t, api.Table{}, contexts{{}})
}

// P15: as many cells as there may be.
func TestSettledOfMany(t *testing.T) {
	dots := gaps(1, 2, api.MaxDots)
	x := api.Table{Context: context([4]int{0, top}), Cells: cellsAt(dots...)}
	wantCells(t, x, contexts{x.Context}, x.Cells...)
	wantCells(t, x, contexts{x.Context, context([4]int{}, dots...)}, x.Cells...)
	wantCells(t, x, contexts{x.Context, context([4]int{0, 799})}, x.Cells[:399]...)
	wantCells(t, x, contexts{x.Context, context([4]int{}, dots[150:]...), context([4]int{0, 500})}, x.Cells[150:250]...)
}

// P15: table.Check's error ahead of Meet's, which is told even if no cell hangs on it.
func TestSettledErrorsInOrder(t *testing.T) {
	one, two := context([4]int{0, top}, gaps(0, 2, 400)...), context([4]int{top}, gaps(1, 2, 400)...)
	tables := []api.Table{
		{Context: context([4]int{1}), Cells: cellsAt(d(0, 2))},
		{Context: context([4]int{9}), Cells: cellsAt(d(0, 2), d(0, 1))},
		{Context: context([4]int{9}), Cells: cellsAt(d(0, 2), d(0, 2))},
		{Context: context([4]int{9}), Cells: []api.Cell{{Dot: d(0, 2), Key: api.Keys}}},
		{Context: context([4]int{9}), Cells: []api.Cell{{Dot: d(0, 2), Col: -1}}},
		{Context: context([4]int{9}), Cells: []api.Cell{{Dot: d(0, 2), Value: api.MaxValue + 1}}},
		{Context: context([4]int{top}), Cells: cellsAt(gaps(0, 1, api.MaxDots+1)...)},
	}
	for _, x := range broken() {
		tables = append(tables, api.Table{Context: x.c})
	}
	for _, x := range tables {
		e := table.Check(x)
		if e == api.OK {
			t.Fatal(x)
		}
		for _, l := range []contexts{nil, {context([4]int{9})}, {one, two}, {context([4]int{-1})}, {context([4]int{}, d(0, 1))}} {
			refuseTable(t, x, l, e)
		}
	}
	refuseTable(t, api.Table{}, contexts{one, two}, api.ErrLarge)
	refuseTable(t, api.Table{Context: context([4]int{0, 0, 1}), Cells: cellsAt(d(2, 1))}, contexts{one, two}, api.ErrLarge)
}
