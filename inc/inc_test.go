package inc

import (
	"slices"
	"testing"

	"viewmere/api"
	"viewmere/plain"
	"viewmere/query"
)

const (
	m = api.MaxNumber
	w = api.MaxWeight
)

// item: a row n times.
func item(n int, row ...int) api.Item { return api.Item{Row: row, N: n} }

// same: are two lists of items the same, an empty one being as good as none?
func same(a, b []api.Item) bool {
	return slices.EqualFunc(a, b, func(x, y api.Item) bool { return x.N == y.N && slices.Equal(x.Row, y.Row) })
}

// sameSteps: are two queries the same, an empty list being as good as none?
func sameSteps(a, b []api.Step) bool {
	return slices.EqualFunc(a, b, func(x, y api.Step) bool {
		return slices.Equal(numbersOf(x), numbersOf(y))
	})
}

// numbersOf a step, those of its list behind the others.
func numbersOf(s api.Step) []int {
	return append([]int{s.Kind, s.A, s.B, s.Col, s.Op, s.Value}, s.List...)
}

// rows: n rows of four numbers, of which the first one rises from a number on, each as many times.
func rows(first, n, times int) []api.Item {
	var l []api.Item
	for i := range n {
		l = append(l, item(times, first+i, 5, 6, 7))
	}
	return l
}

// viewOf a query's text.
func viewOf(t *testing.T, s string) *View {
	t.Helper()
	q, at, e := query.Parse(s)
	if e != api.OK {
		t.Fatal(s, at, e)
	}
	v, e := New(q)
	if e != api.OK {
		t.Fatal(s, e)
	}
	return v
}

// feed: what is handed to Feed, what it tells, and All behind it.
type feed struct{ a, b, told, all []api.Item }

// feedAll: feeds one after another, to a new view of a query's text.
func feedAll(t *testing.T, s string, feeds ...feed) {
	t.Helper()
	v := viewOf(t, s)
	if l := v.All(); len(l) != 0 {
		t.Errorf("%q: at first %v", s, l)
	}
	for i, x := range feeds {
		l, e := v.Feed(x.a, x.b)
		if e != api.OK || !same(l, x.told) || !same(v.All(), x.all) {
			t.Errorf("%q, feed %d: %v %v, then %v; not %v, then %v", s, i, l, e, v.All(), x.told, x.all)
		}
	}
}

type items = []api.Item

// P13: what is told of a step of each kind, as rows come, come again, and go.
func TestKinds(t *testing.T) {
	five, other, six := item(1, 1, 5, 0, 2), item(1, 2, 5, 0, 4), item(1, 3, 6, 0, 8)
	gone := item(-1, 1, 5, 0, 2)
	feedAll(t, "table 0\n",
		feed{a: items{five}, told: items{five}, all: items{five}},
		feed{b: items{six}, all: items{five}},
		feed{a: items{five, six}, told: items{five, six}, all: items{item(2, 1, 5, 0, 2), six}},
		feed{a: items{item(-2, 1, 5, 0, 2)}, told: items{item(-2, 1, 5, 0, 2)}, all: items{six}})
	feedAll(t, "table 1\n",
		feed{a: items{five}},
		feed{b: items{gone}, told: items{gone}, all: items{gone}},
		feed{b: items{five}, told: items{five}})
	feedAll(t, "table 0\nwhere 0 1 = 5\n",
		feed{a: items{five, six}, told: items{five}, all: items{five}},
		feed{a: items{gone, item(3, 3, 6, 0, 8)}, told: items{gone}})
	feedAll(t, "table 0\npick 0 1\n",
		feed{a: items{five, six}, told: items{item(1, 5), item(1, 6)}, all: items{item(1, 5), item(1, 6)}},
		feed{a: items{gone, other}, all: items{item(1, 5), item(1, 6)}},
		feed{a: items{five}, told: items{item(1, 5)}, all: items{item(2, 5), item(1, 6)}})
	feedAll(t, "table 0\npick 0 1\ntable 1\npick 2 1\njoin 1 3 0 0\n",
		feed{a: items{five}},
		feed{b: items{five, six}, told: items{item(1, 5, 5)}, all: items{item(1, 5, 5)}},
		feed{a: items{other}, b: items{five}, told: items{item(3, 5, 5)}, all: items{item(4, 5, 5)}},
		feed{a: items{item(-1, 1, 5, 0, 2), item(-1, 2, 5, 0, 4), six}, told: items{item(-4, 5, 5), item(1, 6, 6)}, all: items{item(1, 6, 6)}})
	feedAll(t, "table 0\ntable 1\nunion 0 1\n",
		feed{a: items{five}, b: items{five, six}, told: items{item(2, 1, 5, 0, 2), six}, all: items{item(2, 1, 5, 0, 2), six}},
		feed{a: items{gone}, b: items{five}, all: items{item(2, 1, 5, 0, 2), six}})
	feedAll(t, "table 0\ntable 1\nminus 0 1\n",
		feed{a: items{five}, b: items{five, six}, told: items{item(-1, 3, 6, 0, 8)}, all: items{item(-1, 3, 6, 0, 8)}},
		feed{b: items{gone}, told: items{five}, all: items{five, item(-1, 3, 6, 0, 8)}})
	feedAll(t, "table 0\ndistinct 0\n",
		feed{a: items{five}, told: items{five}, all: items{five}},
		feed{a: items{five}, all: items{five}},
		feed{a: items{gone}, all: items{five}},
		feed{a: items{gone}, told: items{gone}},
		feed{a: items{gone}},
		feed{a: items{five}},
		feed{a: items{five}, told: items{five}, all: items{five}})
	feedAll(t, "table 0\ncount 0 1\n",
		feed{a: items{five}, told: items{item(1, 5, 1)}, all: items{item(1, 5, 1)}},
		feed{a: items{other}, told: items{item(-1, 5, 1), item(1, 5, 2)}, all: items{item(1, 5, 2)}},
		feed{a: items{gone, six}, told: items{item(1, 5, 1), item(-1, 5, 2), item(1, 6, 1)}, all: items{item(1, 5, 1), item(1, 6, 1)}},
		feed{a: items{gone}, told: items{item(-1, 5, 1)}, all: items{item(1, 6, 1)}})
	feedAll(t, "table 0\nsum 0 1 3\n",
		feed{a: items{five}, told: items{item(1, 5, 2)}, all: items{item(1, 5, 2)}},
		feed{a: items{other, six}, told: items{item(-1, 5, 2), item(1, 5, 6), item(1, 6, 8)}, all: items{item(1, 5, 6), item(1, 6, 8)}},
		feed{a: items{item(-1, 2, 5, 0, 4), item(1, 2, 5, 9, 4)}, all: items{item(1, 5, 6), item(1, 6, 8)}})
}

// P13: nothing more tells nothing, and what is fed may be nil or empty.
func TestNothingMore(t *testing.T) {
	v := viewOf(t, "table 0\ntable 1\nunion 0 1\n")
	for range 2 {
		for _, none := range []items{nil, {}} {
			if l, e := v.Feed(none, none); e != api.OK || len(l) != 0 {
				t.Error(l, e)
			}
		}
		v.Feed(rows(0, 3, 1), nil)
	}
	if !same(v.All(), rows(0, 3, 2)) {
		t.Error(v.All())
	}
}

// P13: what is told is beyond a set's bounds, where what was told before and what is told now are not.
func TestBeyondASet(t *testing.T) {
	var one, two, turned items
	for i := range api.MaxItems {
		one, two = append(one, item(1, i, 1)), append(two, item(1, i, 2))
		turned = append(turned, item(-1, i, 1), item(1, i, 2))
	}
	full := rows(0, api.MaxItems, 1)
	feedAll(t, "table 0\ncount 0 0\n",
		feed{a: full, told: one, all: one},
		feed{a: full, told: turned, all: two})

	left, right := rows(0, 200, 1), rows(200, 200, 1)
	far, further := rows(1000, 200, 1), rows(2000, 200, 1)
	feedAll(t, "table 0\ntable 1\nunion 0 1\n",
		feed{a: left, b: right, told: full, all: full},
		feed{a: slices.Concat(rows(0, 200, -1), far), b: slices.Concat(rows(200, 200, -1), further),
			told: slices.Concat(rows(0, 400, -1), far, further), all: slices.Concat(far, further)})

	feedAll(t, "table 0\nunion 0 0\n",
		feed{a: rows(0, 1, -w/2), told: rows(0, 1, -w), all: rows(0, 1, -w)},
		feed{a: rows(0, 1, w), told: rows(0, 1, 2*w), all: rows(0, 1, w)},
		feed{a: rows(0, 1, -w), told: rows(0, 1, -2*w), all: rows(0, 1, -w)})
}

// P13: New has query.Check's errors, and tells no view beside one.
func TestNew(t *testing.T) {
	for _, x := range []struct {
		q    []api.Step
		want api.Errno
	}{
		{nil, api.ErrArg},
		{[]api.Step{}, api.ErrArg},
		{[]api.Step{{}}, api.ErrArg},
		{[]api.Step{{Kind: api.QTable, A: 2}}, api.ErrArg},
		{[]api.Step{{Kind: api.QTable}, {Kind: api.QPick, List: []int{4}}}, api.ErrArg},
		{make([]api.Step, api.MaxSteps+1), api.ErrLarge},
		{slices.Repeat([]api.Step{{Kind: api.QTable}}, api.MaxSteps+1), api.ErrLarge},
		{slices.Repeat([]api.Step{{Kind: api.QTable}}, api.MaxSteps), api.OK},
	} {
		v, e := New(x.q)
		if e != x.want || (v == nil) != (e != api.OK) {
			t.Error(x.q, v, e)
		}
		if v != nil && (!sameSteps(v.Query(), x.q) || len(v.All()) != 0) {
			t.Error(x.q, v.Query(), v.All())
		}
	}
}

// P13: the query is told as it was handed in, at any time.
func TestQuery(t *testing.T) {
	for _, s := range texts() {
		q, _, _ := query.Parse(s)
		v, e := New(q)
		if e != api.OK || !sameSteps(v.Query(), q) {
			t.Error(s, e, v.Query())
		}
		v.Feed(rows(0, 2, 1), rows(1, 1, 1))
		v.Feed(rows(0, 401, 1), nil)
		if text, e := query.Print(v.Query()); e != api.OK || text != s {
			t.Error(s, e, text)
		}
	}
}

// P13: Feed's errors, in their order; none changes the view.
func TestErrors(t *testing.T) {
	large, unsorted := rows(0, 401, 1), items{item(1, 2, 0, 0, 0), item(1, 1, 0, 0, 0)}
	narrow, broad := items{item(1, 1, 2, 3)}, items{item(1, 1, 2, 3, 4, 5)}
	few, more := rows(0, 1, 1), rows(1000, 1, 1)
	const both = "table 0\ntable 1\n"
	for i, x := range []struct {
		text string
		had  [2]items
		fed  [2]items
		want api.Errno
	}{
		{both, [2]items{}, [2]items{large, nil}, api.ErrLarge},
		{both, [2]items{}, [2]items{nil, large}, api.ErrLarge},
		{both, [2]items{}, [2]items{unsorted, nil}, api.ErrForm},
		{both, [2]items{}, [2]items{nil, unsorted}, api.ErrForm},
		{both, [2]items{}, [2]items{large, unsorted}, api.ErrLarge},
		{both, [2]items{}, [2]items{unsorted, large}, api.ErrForm},
		{both, [2]items{}, [2]items{rows(0, 1, 0), nil}, api.ErrForm},
		{both, [2]items{}, [2]items{nil, rows(0, 1, w+1)}, api.ErrForm},
		{both, [2]items{}, [2]items{rows(m, 2, 1), nil}, api.ErrForm},
		{both, [2]items{}, [2]items{slices.Concat(few, few), nil}, api.ErrForm},
		// A row that has not 4 numbers: behind Check's errors, ahead of Add's.
		{both, [2]items{}, [2]items{narrow, nil}, api.ErrForm},
		{both, [2]items{}, [2]items{nil, narrow}, api.ErrForm},
		{both, [2]items{}, [2]items{broad, nil}, api.ErrForm},
		{both, [2]items{}, [2]items{nil, broad}, api.ErrForm},
		{both, [2]items{}, [2]items{{item(1)}, nil}, api.ErrForm},
		{both, [2]items{}, [2]items{narrow, large}, api.ErrLarge},
		{both, [2]items{nil, rows(0, 400, 1)}, [2]items{narrow, more}, api.ErrForm},
		{both, [2]items{rows(0, 400, 1), nil}, [2]items{more, broad}, api.ErrForm},
		// Add's: of the first table, then of the second one.
		{both, [2]items{rows(0, 400, 1), nil}, [2]items{more, nil}, api.ErrLarge},
		{both, [2]items{nil, rows(0, 400, 1)}, [2]items{nil, more}, api.ErrLarge},
		{both, [2]items{rows(0, 1, w), nil}, [2]items{few, nil}, api.ErrForm},
		{both, [2]items{nil, rows(0, 1, -w)}, [2]items{nil, rows(0, 1, -1)}, api.ErrForm},
		{both, [2]items{rows(0, 400, 1), rows(0, 1, w)}, [2]items{more, few}, api.ErrLarge},
		{both, [2]items{rows(0, 1, w), rows(0, 400, 1)}, [2]items{few, more}, api.ErrForm},
		{both, [2]items{rows(0, 400, w), nil}, [2]items{rows(399, 2, 1), nil}, api.ErrForm},
		{"table 1\n", [2]items{rows(0, 400, 1), nil}, [2]items{more, nil}, api.ErrLarge},
		{"table 0\n", [2]items{nil, rows(0, 1, w)}, [2]items{nil, few}, api.ErrForm},
		// All's, of all steps, behind those.
		{"table 0\njoin 0 0 1 1\n", [2]items{rows(0, 20, 1), nil}, [2]items{more, nil}, api.ErrLarge},
		{"table 0\njoin 0 0 1 1\ntable 1\n", [2]items{rows(0, 20, 1), nil}, [2]items{more, few}, api.ErrLarge},
		{"table 0\njoin 0 0 1 1\n", [2]items{rows(0, 20, 1), rows(0, 1, w)}, [2]items{more, few}, api.ErrForm},
		{"table 0\njoin 0 0 1 1\n", [2]items{rows(0, 1, 1<<10), nil}, [2]items{few, nil}, api.ErrForm},
		{"table 0\nunion 0 0\nminus 1 0\n", [2]items{rows(0, 1, w/2), nil}, [2]items{few, nil}, api.ErrForm},
		{"table 0\nsum 0 2 0\n", [2]items{rows(m-1, 1, 1), nil}, [2]items{rows(2, 1, 1), nil}, api.ErrForm},
		{both + "union 0 1\n", [2]items{rows(0, 200, 1), rows(200, 200, 1)}, [2]items{nil, more}, api.ErrLarge},
	} {
		v := viewOf(t, x.text)
		if _, e := v.Feed(x.had[0], x.had[1]); e != api.OK {
			t.Fatal(i, e)
		}
		for range 2 {
			l, e := v.Feed(x.fed[0], x.fed[1])
			if e != x.want || l != nil {
				t.Error(i, x.text, l, e, x.want)
			}
		}
		hasStill(t, v, x.had)
	}
}

// hasStill: both tables of a view are these, and it tells what is told of these.
func hasStill(t *testing.T, v *View, had [2]items) {
	t.Helper()
	want, e := plain.Eval(v.Query(), had[0], had[1])
	if e != api.OK || !same(v.All(), want) {
		t.Error("told has changed", v.All(), want, e)
	}
	// A query may not look at a table: so both are held against what was there, too.
	if !same(v.tables[0], had[0]) || !same(v.tables[1], had[1]) {
		t.Error("has changed", v.tables, had)
	}
}

// P13: the edges at which there is no error yet.
func TestEdges(t *testing.T) {
	full := rows(0, 400, 1)
	feedAll(t, "table 0\n",
		feed{a: full, told: full, all: full},
		feed{a: items{item(-1, 0, 5, 6, 7), item(1, 400, 5, 6, 7)}, told: items{item(-1, 0, 5, 6, 7), item(1, 400, 5, 6, 7)}, all: rows(1, 400, 1)},
		feed{a: rows(1, 400, -1), told: rows(1, 400, -1)})
	feedAll(t, "table 1\n",
		feed{b: rows(m, 1, w-1), told: rows(m, 1, w-1), all: rows(m, 1, w-1)},
		feed{b: rows(m, 1, 1), told: rows(m, 1, 1), all: rows(m, 1, w)},
		feed{b: rows(m, 1, -w), told: rows(m, 1, -w)},
		feed{b: rows(m, 1, -w), told: rows(m, 1, -w), all: rows(m, 1, -w)})
	feedAll(t, "table 0\nsum 0 2 0\n",
		feed{a: rows(m-1, 1, 1), told: items{item(1, 6, m-1)}, all: items{item(1, 6, m-1)}},
		feed{a: rows(1, 1, 1), told: items{item(-1, 6, m-1), item(1, 6, m)}, all: items{item(1, 6, m)}})
}

// P1: a view that New didn't make has no query: it tells nothing, and takes nothing.
func TestViewWithoutQuery(t *testing.T) {
	var v View
	for _, x := range []struct {
		a, b items
		want api.Errno
	}{
		{nil, nil, api.ErrArg},
		{rows(0, 1, 1), nil, api.ErrArg},
		{rows(0, 401, 1), nil, api.ErrLarge},
		{nil, rows(0, 1, 0), api.ErrForm},
	} {
		if l, e := v.Feed(x.a, x.b); e != x.want || l != nil {
			t.Error(x, l, e)
		}
	}
	if len(v.All()) != 0 || len(v.Query()) != 0 {
		t.Error(v.All(), v.Query())
	}
}
