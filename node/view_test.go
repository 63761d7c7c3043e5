package node

import (
	"math"
	"slices"
	"testing"

	"viewmere/api"
	"viewmere/plain"
	"viewmere/query"
	"viewmere/zset"
)

type items = []api.Item

// item: a row n times.
func item(n int, row ...int) api.Item { return api.Item{Row: row, N: n} }

// sameItems: are two lists of items the same, an empty one being as good as none?
func sameItems(a, b []api.Item) bool {
	return slices.EqualFunc(a, b, func(x, y api.Item) bool { return x.N == y.N && slices.Equal(x.Row, y.Row) })
}

// steps of a query's text.
func steps(t *testing.T, s string) []api.Step {
	t.Helper()
	q, at, e := query.Parse(s)
	if e != api.OK {
		t.Fatal(s, at, e)
	}
	return q
}

// watchTexts: a node has views of these queries.
func watchTexts(t *testing.T, n *Node, texts ...string) {
	t.Helper()
	for _, s := range texts {
		if e := n.Watch(steps(t, s)); e != api.OK {
			t.Fatal(s, e)
		}
	}
}

// tells: view i of the node tells this.
func tells(t *testing.T, n *Node, i int, want []api.Item) {
	t.Helper()
	if l, e := n.View(i); e != api.OK || !sameItems(l, want) {
		t.Error(i, l, e, want)
	}
}

// fails: view i of the node tells this error, and nothing beside it.
func fails(t *testing.T, n *Node, i int, want api.Errno) {
	t.Helper()
	if l, e := n.View(i); e != want || l != nil {
		t.Error(i, l, e, want)
	}
}

// does: edits that are all right.
func does(t *testing.T, n *Node, edits ...api.Edit) {
	t.Helper()
	for _, x := range edits {
		if e := n.Do(x); e != api.OK {
			t.Fatal(x, e)
		}
	}
}

// evalOf: what P19 says of a view: what plain.Eval tells of a query and of the node's tables.
func evalOf(n *Node, q []api.Step) ([]api.Item, api.Errno) {
	p := n.Whole()
	a, e := zset.Of(p.Tables[0])
	if e != api.OK {
		return nil, e
	}
	b, e := zset.Of(p.Tables[1])
	if e != api.OK {
		return nil, e
	}
	return plain.Eval(q, a, b)
}

// P19: a view of a table tells its rows, of one with edits already, too.
func TestViewOfATable(t *testing.T) {
	n := nodeOf(t, 0)
	watchTexts(t, n, "table 0\n")
	tells(t, n, 0, nil)
	does(t, n, put(0, 3, 1, 7), put(1, 8, 0, 1), put(0, 2, 2, -4))
	watchTexts(t, n, "table 1\n", "table 0\n")
	both := items{item(1, 2, 0, 0, -4), item(1, 3, 0, 7, 0)}
	tells(t, n, 0, both)
	tells(t, n, 1, items{item(1, 8, 1, 0, 0)})
	tells(t, n, 2, both)
	does(t, n, put(0, 3, 1, -5), del(0, 2), put(1, 8, 1, 2))
	tells(t, n, 0, items{item(1, 3, 0, -5, 0)})
	tells(t, n, 1, items{item(1, 8, 1, 2, 0)})
	tells(t, n, 2, items{item(1, 3, 0, -5, 0)})
	does(t, n, del(0, 3), del(1, 8))
	for i := range 3 {
		tells(t, n, i, nil)
	}
}

// P19: a view turns with each packet, as with each edit; of two values the greater one is seen.
func TestViewByPackets(t *testing.T) {
	a, b := nodeOf(t, 0), nodeOf(t, 1)
	watchTexts(t, a, "table 0\ncount 0 1\n", "table 0\ntable 1\njoin 0 1 1 0\n")
	does(t, a, put(0, 3, 0, 7))
	does(t, b, put(0, 3, 0, 8), put(0, 4, 0, 7), put(1, 7, 2, 1))
	tells(t, a, 0, items{item(1, 7, 1)})
	tells(t, a, 1, nil)
	early := b.Whole()
	takeAll(t, a, early, early)
	tells(t, a, 0, items{item(1, 7, 1), item(1, 8, 1)})
	tells(t, a, 1, items{item(1, 4, 7, 0, 0, 7, 0, 0, 1)})
	takeAll(t, b, a.Whole())
	does(t, b, put(0, 3, 0, 7), del(1, 7))
	p, e := b.Since(a.Seen())
	if e != api.OK {
		t.Fatal(e)
	}
	takeAll(t, a, p, early, p)
	tells(t, a, 0, items{item(1, 7, 2)})
	tells(t, a, 1, nil)
	if b.Views() != 0 {
		t.Error(b.Views())
	}
}

// P19: Watch has query.Check's error, then ErrLarge of a fifth view; neither makes a view.
func TestWatchErrors(t *testing.T) {
	table := []api.Step{{Kind: api.QTable}}
	wrong := []struct {
		q    []api.Step
		want api.Errno
	}{
		{nil, api.ErrArg},
		{[]api.Step{}, api.ErrArg},
		{[]api.Step{{}}, api.ErrArg},
		{[]api.Step{{Kind: api.QTable, A: 2}}, api.ErrArg},
		{[]api.Step{{Kind: api.QTable}, {Kind: api.QWhere, Col: 4, Op: api.OLess}}, api.ErrArg},
		{[]api.Step{{Kind: math.MinInt, A: math.MaxInt, B: -1, Col: -1, Op: 9, List: make([]int, 9)}}, api.ErrArg},
		{slices.Repeat(table, api.MaxSteps+1), api.ErrLarge},
	}
	n := nodeOf(t, 0, put(0, 3, 1, 7))
	for views, want := range []api.Errno{api.OK, api.OK, api.OK, api.OK, api.ErrLarge, api.ErrLarge} {
		if n.Views() != min(views, 4) {
			t.Fatal(views, n.Views())
		}
		for _, x := range wrong {
			if e := n.Watch(x.q); e != x.want {
				t.Error(views, x.q, e)
			}
		}
		if e := n.Watch(slices.Repeat(table, views+1)); e != want {
			t.Error(views, e, want)
		}
	}
	if n.Views() != 4 {
		t.Error(n.Views())
	}
	for i := range 4 {
		tells(t, n, i, items{item(1, 3, 0, 7, 0)})
	}
}

// P19: there is no view below 0, or from as many as there are on.
func TestNoView(t *testing.T) {
	n := nodeOf(t, 0, put(0, 3, 1, 7))
	for views := range 5 {
		for _, i := range []int{math.MinInt, -1, views, views + 1, 4, 5, 1 << 32, math.MaxInt} {
			if i < 0 || i >= views {
				fails(t, n, i, api.ErrNone)
			}
		}
		if views < 4 {
			watchTexts(t, n, "table 0\n")
		}
	}
}

// P19: a view has plain.Eval's error while the tables are such, and has what the query tells when they
// aren't any more, whatever was edited meanwhile.
func TestViewWithAnError(t *testing.T) {
	n := nodeOf(t, 0)
	watchTexts(t, n, "table 0\njoin 0 0 1 1\ncount 1 1\n", "table 0\ncount 0 1\n")
	for key := range 20 {
		does(t, n, put(0, key, 0, 5))
	}
	tells(t, n, 0, items{item(1, 5, 400)})
	does(t, n, put(0, 20, 0, 5))
	fails(t, n, 0, api.ErrLarge)
	tells(t, n, 1, items{item(1, 5, 21)})
	// A view that is new has the error, too.
	watchTexts(t, n, "table 0\njoin 0 0 1 1\ncount 1 1\n")
	fails(t, n, 2, api.ErrLarge)
	// Rows that come, turn and go meanwhile.
	does(t, n, put(0, 30, 0, 6), put(0, 31, 0, 7), put(0, 0, 0, 8), put(0, 30, 0, 9), del(0, 31), put(0, 32, 0, 5), put(1, 3, 0, 1))
	fails(t, n, 0, api.ErrLarge)
	fails(t, n, 2, api.ErrLarge)
	does(t, n, del(0, 19), del(0, 18), del(0, 17), del(0, 16))
	want := items{item(1, 5, 17*17), item(1, 8, 1), item(1, 9, 1)}
	tells(t, n, 0, want)
	tells(t, n, 1, items{item(1, 5, 17), item(1, 8, 1), item(1, 9, 1)})
	tells(t, n, 2, want)
	for key := range api.Keys {
		n.Do(put(0, key, 0, 5))
	}
	fails(t, n, 0, api.ErrLarge)
	for key := range api.Keys {
		does(t, n, del(0, key))
	}
	for i := range 3 {
		tells(t, n, i, nil)
	}
}

// P19: a view's error is that of now: the first step's that has one.
func TestErrorsOfAView(t *testing.T) {
	n := nodeOf(t, 0)
	// So many rows with the same value are there so many times to the fourth power: 2^20 times of 32 rows.
	watchTexts(t, n, "table 1\npick 0 2\njoin 1 1 0 0\npick 2 1\njoin 3 3 0 0\ntable 0\njoin 5 5 1 1\n", "table 1\npick 0 2\njoin 1 1 0 0\npick 2 1\njoin 3 3 0 0\n")
	for key := range 32 {
		does(t, n, put(1, key, 1, 6))
	}
	tells(t, n, 1, items{item(1<<20, 6, 6)})
	does(t, n, put(1, 32, 1, 6))
	fails(t, n, 0, api.ErrForm)
	fails(t, n, 1, api.ErrForm)
	for key := range 21 {
		does(t, n, put(0, key, 0, 5))
	}
	fails(t, n, 0, api.ErrForm)
	does(t, n, del(1, 0))
	fails(t, n, 0, api.ErrLarge)
	tells(t, n, 1, items{item(1<<20, 6, 6)})
	does(t, n, put(1, 0, 1, 6))
	fails(t, n, 0, api.ErrForm)
	does(t, n, del(0, 0), del(1, 0))
	if l, e := n.View(0); e != api.OK || len(l) != 400 {
		t.Error(len(l), e)
	}
}

// P19: an edit, or a packet, that has an error turns no view; nor does a query's error keep one off.
func TestErrorsApart(t *testing.T) {
	n := nodeWith(t, packetOf(tableOf([api.Nodes]int{api.MaxSeq}, cell(0, 1, 3, 1, 7)), api.Table{}))
	watchTexts(t, n, "table 0\n")
	want := items{item(1, 3, 0, 7, 0)}
	for i, e := range []api.Errno{
		n.Do(put(0, 4, 1, 7)),
		n.Do(del(0, 4)),
		n.Take(packetOf(tableOf([api.Nodes]int{2: 1}, cell(2, 1, 9, 0, 9)), tableOf([api.Nodes]int{-1}))),
	} {
		if e == api.OK {
			t.Error(i)
		}
		tells(t, n, 0, want)
	}
	other := nodeOf(t, 1)
	watchTexts(t, other, "table 0\njoin 0 0 1 1\n")
	for key := range api.Keys {
		does(t, other, put(0, key, 0, 5))
	}
	fails(t, other, 0, api.ErrLarge)
	takeAll(t, other, n.Whole())
	if l := other.Whole().Tables[0].Cells; len(l) != api.Keys+1 {
		t.Error(l)
	}
}

// A view that has no error has missed nothing, and one that has an error keeps no more than the
// difference of two states of the tables.
func TestMissed(t *testing.T) {
	n := nodeOf(t, 0)
	watchTexts(t, n, "table 0\njoin 0 0 1 1\n")
	for round := range 5 {
		for key := range api.Keys {
			does(t, n, put(0, key, 0, round%2), put(1, key, 0, round))
		}
		fails(t, n, 0, api.ErrLarge)
		for _, l := range n.views[0].missed {
			if len(l) > 2*api.Keys {
				t.Error(round, len(l))
			}
		}
	}
	for key := range api.Keys {
		does(t, n, put(0, key, 0, key))
	}
	if l, e := n.View(0); e != api.OK || len(l) != api.Keys {
		t.Error(len(l), e)
	}
	for _, l := range n.views[0].missed {
		if len(l) != 0 {
			t.Error(l)
		}
	}
}
