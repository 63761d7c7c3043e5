package plain

import (
	"math"
	"slices"
	"testing"

	"viewmere/api"
	"viewmere/query"
	"viewmere/zset"
)

const (
	m = api.MaxNumber
	w = api.MaxWeight
)

// item: a row n times.
func item(n int, row ...int) api.Item { return api.Item{Row: row, N: n} }

// same: are two sets the same, an empty list being as good as none?
func same(a, b []api.Item) bool {
	return slices.EqualFunc(a, b, func(x, y api.Item) bool { return x.N == y.N && slices.Equal(x.Row, y.Row) })
}

// sameSets: are two lists of sets the same?
func sameSets(a, b [][]api.Item) bool { return slices.EqualFunc(a, b, same) }

// parsed: the query of a text that is right.
func parsed(t *testing.T, s string) []api.Step {
	t.Helper()
	q, at, e := query.Parse(s)
	if e != api.OK {
		t.Fatal(s, at, e)
	}
	return q
}

// rows: n rows of four numbers, rising, of which all but the first are the same, each as many times.
func rows(n, times int) []api.Item {
	var l []api.Item
	for i := range n {
		l = append(l, item(times, i, 5, 6, 7))
	}
	return l
}

// told: a query of a text, the sets of both tables, and the last set or the error that is told of these.
type told struct {
	text string
	a, b []api.Item
	want []api.Item
	err  api.Errno
}

// try: each of these, by Eval and by All.
func (x told) try(t *testing.T) {
	t.Helper()
	q := parsed(t, x.text)
	l, e := Eval(q, x.a, x.b)
	if e != x.err || !same(l, x.want) || e != api.OK && l != nil {
		t.Errorf("%q of %v and %v: Eval %v %v, not %v %v", x.text, x.a, x.b, l, e, x.want, x.err)
	}
	all, e := All(q, x.a, x.b)
	if e != x.err || e != api.OK && all != nil {
		t.Errorf("%q of %v and %v: All %v %v, not %v", x.text, x.a, x.b, all, e, x.err)
	}
	if e == api.OK && (len(all) != len(q) || !same(all[len(q)-1], x.want)) {
		t.Errorf("%q of %v and %v: All %v, not at last %v", x.text, x.a, x.b, all, x.want)
	}
}

// P12: what each kind of step tells.
func TestKinds(t *testing.T) {
	a := []api.Item{item(2, -3, 5, 0, 1), item(1, 2, 5, 1, 1), item(-1, 3, 5, 1, 4), item(1, 3, 6, 0, -4)}
	b := []api.Item{item(3, 5, 9, 9, 9), item(-1, 6, 8, 8, 8)}
	for _, x := range []told{
		{text: "table 0\n", want: a},
		{text: "table 1\n", want: b},
		{text: "table 1\ntable 0\n", want: a},
		{text: "table 0\nwhere 0 0 < 2\n", want: a[:1]},
		{text: "table 0\nwhere 0 0 = 2\n", want: a[1:2]},
		{text: "table 0\nwhere 0 0 > 2\n", want: a[2:]},
		{text: "table 0\nwhere 0 3 > -4\n", want: a[:3]},
		{text: "table 0\nwhere 0 2 = 7\n"},
		{text: "table 0\npick 0 2\n", want: []api.Item{item(3, 0)}},
		{text: "table 0\npick 0 3\n", want: []api.Item{item(1, -4), item(3, 1), item(-1, 4)}},
		{text: "table 0\npick 0 3,1\n", want: []api.Item{item(1, -4, 6), item(3, 1, 5), item(-1, 4, 5)}},
		{text: "table 1\npick 0 0,0,1,0,0,0,0,0\n", want: []api.Item{item(3, 5, 5, 9, 5, 5, 5, 5, 5), item(-1, 6, 6, 8, 6, 6, 6, 6, 6)}},
		{text: "table 0\ntable 1\njoin 0 1 1 0\n", want: []api.Item{
			item(6, -3, 5, 0, 1, 5, 9, 9, 9), item(3, 2, 5, 1, 1, 5, 9, 9, 9), item(-3, 3, 5, 1, 4, 5, 9, 9, 9), item(-1, 3, 6, 0, -4, 6, 8, 8, 8)}},
		{text: "table 0\ntable 1\njoin 1 0 0 1\n", want: []api.Item{
			item(6, 5, 9, 9, 9, -3, 5, 0, 1), item(3, 5, 9, 9, 9, 2, 5, 1, 1), item(-3, 5, 9, 9, 9, 3, 5, 1, 4), item(-1, 6, 8, 8, 8, 3, 6, 0, -4)}},
		{text: "table 0\ntable 1\njoin 0 1 0 0\n"},
		{text: "table 1\npick 0 0\njoin 1 1 0 0\n", want: []api.Item{item(9, 5, 5), item(1, 6, 6)}},
		{text: "table 0\ntable 1\nunion 0 1\n", want: slices.Concat(a, b)},
		{text: "table 0\nunion 0 0\n", want: []api.Item{item(4, -3, 5, 0, 1), item(2, 2, 5, 1, 1), item(-2, 3, 5, 1, 4), item(2, 3, 6, 0, -4)}},
		{text: "table 0\ntable 1\nminus 0 1\n", want: slices.Concat(a, []api.Item{item(-3, 5, 9, 9, 9), item(1, 6, 8, 8, 8)})},
		{text: "table 0\nminus 0 0\n"},
		{text: "table 0\nwhere 0 1 = 5\nminus 1 0\n", want: []api.Item{item(-1, 3, 6, 0, -4)}},
		{text: "table 0\ndistinct 0\n", want: []api.Item{item(1, -3, 5, 0, 1), item(1, 2, 5, 1, 1), item(1, 3, 6, 0, -4)}},
		{text: "table 0\nminus 0 0\nminus 1 0\ndistinct 2\n", want: []api.Item{item(1, 3, 5, 1, 4)}},
		{text: "table 0\ncount 0 0\n", want: []api.Item{item(1, -3, 2), item(1, 2, 1)}},
		{text: "table 0\ncount 0 1\n", want: []api.Item{item(1, 5, 2), item(1, 6, 1)}},
		{text: "table 0\ncount 0 2\n", want: []api.Item{item(1, 0, 3)}},
		{text: "table 1\ncount 0 0\n", want: []api.Item{item(1, 5, 3), item(1, 6, -1)}},
		{text: "table 0\nsum 0 1 0\n", want: []api.Item{item(1, 5, -7), item(1, 6, 3)}},
		{text: "table 0\nsum 0 1 1\n", want: []api.Item{item(1, 5, 10), item(1, 6, 6)}},
		{text: "table 0\nsum 0 0 3\n", want: []api.Item{item(1, -3, 2), item(1, 2, 1)}},
		{text: "table 0\nsum 0 1 2\n", want: []api.Item{item(1, 5, 0), item(1, 6, 0)}},
	} {
		x.a, x.b = a, b
		x.try(t)
	}
}

// P12: of nothing each step tells nothing.
func TestOfNothing(t *testing.T) {
	for _, s := range []string{"where 0 0 = 0\n", "pick 0 0\n", "join 0 1 0 0\n", "union 0 1\n", "minus 0 1\n", "distinct 0\n", "count 0 0\n", "sum 0 0 0\n"} {
		told{text: "table 0\ntable 1\n" + s}.try(t)
		told{text: "table 0\ntable 1\n" + s, a: []api.Item{}, b: []api.Item{}}.try(t)
	}
	told{text: "table 0\ntable 1\njoin 0 1 0 0\n", a: rows(2, 1)}.try(t)
	told{text: "table 0\ntable 1\njoin 0 1 0 0\n", b: rows(2, 1)}.try(t)
}

// P12: a row may be there from -2^20 to 2^20 times.
func TestWeights(t *testing.T) {
	one := func(n int) []api.Item { return []api.Item{item(n, 1, 1, 1, 1)} }
	wide := []int{1, 1, 1, 1, 1, 1, 1, 1}
	join := "table 0\ntable 1\njoin 0 1 3 0\n"
	two := func(n, k int) []api.Item { return []api.Item{item(n, 1, 1, 1, 1), item(k, 2, 1, 1, 1)} }
	pick := "table 0\npick 0 1,3\n"
	for _, x := range []told{
		{text: join, a: one(1 << 10), b: one(1 << 10), want: []api.Item{item(w, wide...)}},
		{text: join, a: one(-1 << 10), b: one(1 << 10), want: []api.Item{item(-w, wide...)}},
		{text: join, a: one(-w), b: one(-1), want: []api.Item{item(w, wide...)}},
		{text: join, a: one(1<<10 + 1), b: one(1 << 10), err: api.ErrForm},
		{text: join, a: one(1 << 10), b: one(-1<<10 - 1), err: api.ErrForm},
		{text: join, a: one(w), b: one(w), err: api.ErrForm},
		{text: join, a: one(-w), b: one(-w), err: api.ErrForm},
		{text: join, a: one(w), b: one(-w), err: api.ErrForm},
		{text: join, a: one(w/3 + 1), b: one(3), err: api.ErrForm},
		{text: pick, a: two(w-1, 1), want: []api.Item{item(w, 1, 1)}},
		{text: pick, a: two(-w+1, -1), want: []api.Item{item(-w, 1, 1)}},
		{text: pick, a: two(w, 1), err: api.ErrForm},
		{text: pick, a: two(-1, -w), err: api.ErrForm},
		{text: pick, a: two(w, -w)},
		{text: pick, a: append(two(w, w), item(-w, 3, 1, 1, 1)), want: []api.Item{item(w, 1, 1)}},
		{text: "table 0\ntable 1\nunion 0 1\n", a: one(w - 1), b: one(1), want: one(w)},
		{text: "table 0\ntable 1\nunion 0 1\n", a: one(w), b: one(1), err: api.ErrForm},
		{text: "table 0\ntable 1\nminus 0 1\n", a: one(-w + 1), b: one(1), want: one(-w)},
		{text: "table 0\ntable 1\nminus 0 1\n", a: one(-w), b: one(1), err: api.ErrForm},
		{text: "table 0\ntable 1\nminus 0 1\n", a: one(-1), b: one(-w), want: one(w - 1)},
		{text: "table 0\ndistinct 0\n", a: two(w, -w), want: one(1)},
	} {
		x.try(t)
	}
}

// P12: how many times rows are there in all may pass 2^20 where it is a number of a row.
func TestCountsPassWeights(t *testing.T) {
	told{text: "table 0\ncount 0 1\n", a: rows(400, w), want: []api.Item{item(1, 5, 400*w)}}.try(t)
	told{text: "table 0\ncount 0 1\n", a: rows(400, -w), want: []api.Item{item(1, 5, -400*w)}}.try(t)
	told{text: "table 0\nsum 0 1 1\n", a: rows(40, w), want: []api.Item{item(1, 5, 200*w)}}.try(t)
	l := append(rows(2, w), item(-w, 3, 5, 0, 0), item(-w, 4, 5, 0, 0))
	told{text: "table 0\ncount 0 1\n", a: l}.try(t)
}

// P12: a number of a row is from -2^30 to 2^30, which a sum may pass.
func TestSums(t *testing.T) {
	sum := "table 0\nsum 0 1 3\n"
	for _, x := range []told{
		{a: []api.Item{item(1, 1, 5, 0, m-1), item(1, 2, 5, 0, 1)}, want: []api.Item{item(1, 5, m)}},
		{a: []api.Item{item(1, 1, 5, 0, m), item(1, 2, 5, 0, 1)}, err: api.ErrForm},
		{a: []api.Item{item(1, 1, 5, 0, -m), item(1, 2, 5, 0, 0)}, want: []api.Item{item(1, 5, -m)}},
		{a: []api.Item{item(1, 1, 5, 0, -m), item(-1, 2, 5, 0, 1)}}, // 0 times in all: no row, and no number
		{a: []api.Item{item(1, 1, 5, 0, -m), item(2, 2, 5, 0, -1)}, err: api.ErrForm},
		{a: []api.Item{item(w, 1, 5, 0, 1<<10)}, want: []api.Item{item(1, 5, m)}},
		{a: []api.Item{item(w, 1, 5, 0, 1<<10+1)}, err: api.ErrForm},
		{a: []api.Item{item(w, 1, 5, 0, m), item(1-w, 2, 5, 0, m)}, want: []api.Item{item(1, 5, m)}},
		{a: []api.Item{item(w, 1, 5, 0, m), item(-w, 2, 5, 0, -m)}},
		{a: []api.Item{item(w, 1, 5, 0, m), item(-w, 2, 5, 0, -m), item(1, 3, 6, 0, 2)}, want: []api.Item{item(1, 6, 2)}},
		{a: []api.Item{item(1, 1, 5, 0, 3), item(-1, 2, 5, 0, 4)}},
		{a: []api.Item{item(2, 1, 5, 0, 3), item(-1, 2, 5, 0, 6)}, want: []api.Item{item(1, 5, 0)}},
		{a: []api.Item{item(-2, 1, -5, 0, 3)}, want: []api.Item{item(1, -5, -6)}},
	} {
		x.text = sum
		x.try(t)
	}
	var most []api.Item
	for i := range 400 {
		most = append(most, item(w, i, 5, 0, m))
	}
	told{text: sum, a: most, err: api.ErrForm}.try(t)
	for i := range most {
		most[i].N = -w
	}
	told{text: sum, a: most, err: api.ErrForm}.try(t)
}

// P12: a set has at most 400 rows.
func TestLarge(t *testing.T) {
	apart := func(n int) []api.Item { // behind all of rows
		l := rows(n, 1)
		for i := range l {
			l[i].Row[0] += 1000
		}
		return l
	}
	union, join := "table 0\ntable 1\nunion 0 1\n", "table 0\ntable 1\njoin 0 1 1 1\n"
	for _, x := range []struct {
		told
		rows int
	}{
		{told{text: union, a: rows(399, 1), b: apart(1)}, 400},
		{told{text: union, a: rows(400, 1), b: apart(1), err: api.ErrLarge}, 0},
		{told{text: union, a: rows(400, 1), b: rows(400, 1)}, 400},
		{told{text: union, a: rows(400, 1), b: apart(400), err: api.ErrLarge}, 0},
		{told{text: "table 0\ntable 1\nminus 0 1\n", a: rows(400, 1), b: apart(1), err: api.ErrLarge}, 0},
		{told{text: "table 0\ntable 1\nminus 0 1\n", a: rows(400, 1), b: rows(400, 1)}, 0},
		{told{text: join, a: rows(20, 1), b: rows(20, 1)}, 400},
		{told{text: join, a: rows(1, 1), b: rows(400, 1)}, 400},
		{told{text: join, a: rows(400, 1), b: rows(1, 1)}, 400},
		{told{text: join, a: rows(401/3+1, 1), b: rows(3, 1), err: api.ErrLarge}, 0},
		{told{text: join, a: rows(20, 1), b: rows(21, 1), err: api.ErrLarge}, 0},
		{told{text: join, a: rows(400, -1), b: rows(400, 1), err: api.ErrLarge}, 0},
		{told{text: "table 0\njoin 0 0 0 0\n", a: rows(400, -1)}, 400},
		{told{text: "table 0\ncount 0 0\n", a: rows(400, -1)}, 400},
		{told{text: "table 0\nsum 0 0 0\n", a: rows(400, 2)}, 400},
		{told{text: "table 0\npick 0 0\n", a: rows(400, 2)}, 400},
		{told{text: "table 0\ndistinct 0\n", a: rows(400, 2)}, 400},
		{told{text: "table 0\nwhere 0 1 = 5\n", a: rows(400, 2)}, 400},
		{told{text: "table 0\n", a: rows(400, 2)}, 400},
	} {
		l, e := Eval(parsed(t, x.text), x.a, x.b)
		if e != x.err || len(l) != x.rows || zset.Check(l) != api.OK {
			t.Error(x.text, len(x.a), len(x.b), len(l), e, x.rows, x.err)
		}
	}
}

// P12: in one step a weight that is too great is told ahead of rows that are too many.
func TestFormAheadOfLarge(t *testing.T) {
	join := "table 0\ntable 1\njoin 0 1 1 1\n"
	for _, at := range []int{0, 1, 200, 399} {
		a, b := rows(400, 1), rows(400, 1)
		told{text: join, a: a, b: b, err: api.ErrLarge}.try(t)
		a[at].N = w
		told{text: join, a: a, b: b, err: api.ErrLarge}.try(t)
		b[400-1-at].N = -2
		told{text: join, a: a, b: b, err: api.ErrForm}.try(t)
		// A pair that doesn't fit has no weight.
		b[400-1-at].Row = []int{400 - 1 - at, 4, 6, 7}
		told{text: join, a: a, b: b, err: api.ErrLarge}.try(t)
	}
	for _, n := range []int{17, -17} { // times 61681 that is one more than there may be
		a, b := rows(400, 1), rows(400, 1)
		a[399].N, b[399].N = n, (w+1)/17
		told{text: join, a: a, b: b, err: api.ErrForm}.try(t)
		a[399].N, b[399].N = n/17, w
		told{text: join, a: a, b: b, err: api.ErrLarge}.try(t)
	}
	a, b := rows(400, 1), rows(400, 1)
	a[7].N, b[7].N = w, 1
	b = append(b[:399], item(1, 5000, 0, 0, 0))
	told{text: "table 0\ntable 1\nunion 0 1\n", a: a, b: b, err: api.ErrForm}.try(t)
}

// P12: the first step that has an error tells it, and also one that no other step takes.
func TestFirstStep(t *testing.T) {
	a, b := rows(400, w), rows(21, 1)
	large, form := "join 1 1 1 1\n", "union 0 0\n"
	for _, x := range []told{
		{text: "table 0\ntable 1\n" + form + "table 1\n", err: api.ErrForm},
		{text: "table 0\ntable 1\n" + large + "table 1\n", err: api.ErrLarge},
		{text: "table 0\ntable 1\n" + large + form, err: api.ErrLarge},
		{text: "table 0\ntable 1\n" + form + large, err: api.ErrForm},
		{text: "table 0\ntable 1\n" + form + "minus 2 0\n", err: api.ErrForm},
		{text: "table 0\ntable 1\nwhere 0 0 > 9999\nunion 2 2\n"},
	} {
		x.a, x.b = a, b
		x.try(t)
	}
}

// P12: errors of what is handed in, in their order.
func TestWrongInputs(t *testing.T) {
	q := []api.Step{{Kind: api.QTable}}
	noQuery := []api.Step{{Kind: api.QTable, A: 2}}
	ninth := make([]api.Step, api.MaxSteps+1)
	good, large := rows(2, 1), rows(401, 1)
	form, narrow, broad := []api.Item{item(0, 1, 2, 3, 4)}, []api.Item{item(1, 1, 2, 3)}, []api.Item{item(1, 1, 2, 3, 4, 5)}
	for _, x := range []struct {
		q    []api.Step
		a, b []api.Item
		want api.Errno
	}{
		{nil, good, good, api.ErrArg},
		{nil, large, form, api.ErrArg},
		{noQuery, good, good, api.ErrArg},
		{noQuery, large, narrow, api.ErrArg},
		{noQuery, narrow, large, api.ErrArg},
		{ninth, good, good, api.ErrLarge},
		{ninth, form, form, api.ErrLarge},
		{q, large, good, api.ErrLarge},
		{q, good, large, api.ErrLarge},
		{q, form, good, api.ErrForm},
		{q, good, form, api.ErrForm},
		{q, form, large, api.ErrForm},
		{q, large, form, api.ErrLarge},
		{q, narrow, large, api.ErrLarge},
		{q, broad, large, api.ErrLarge},
		{q, narrow, good, api.ErrForm},
		{q, good, narrow, api.ErrForm},
		{q, broad, nil, api.ErrForm},
		{q, nil, broad, api.ErrForm},
		{q, []api.Item{item(1)}, nil, api.ErrForm},
		{q, nil, []api.Item{item(1, 1, 2, 3, 4, 5, 6, 7, 8)}, api.ErrForm},
		{q, append(rows(2, 1), item(1, 5)), nil, api.ErrForm},
		{q, append([]api.Item{item(1, -5)}, rows(2, 1)...), nil, api.ErrForm},
		{q, []api.Item{item(1, 2, 0, 0, 0), item(1, 1, 0, 0, 0)}, nil, api.ErrForm},
		{q, []api.Item{item(1, m+1, 0, 0, 0)}, nil, api.ErrForm},
		{q, []api.Item{item(1, math.MinInt, 0, 0, 0)}, nil, api.ErrForm},
		{q, []api.Item{item(w+1, 1, 0, 0, 0)}, nil, api.ErrForm},
		{q, []api.Item{item(1, -m, 0, 0, 0), item(-w, m, m, m, m)}, good, api.OK},
	} {
		l, e := Eval(x.q, x.a, x.b)
		all, f := All(x.q, x.a, x.b)
		if e != x.want || f != x.want || e != api.OK && (l != nil || all != nil) {
			t.Error(x.q, x.a, x.b, l, e, all, f, x.want)
		}
	}
}

// P12: ErrForm for a row that has not 4 numbers is told ahead of each step's error.
func TestWidthAheadOfSteps(t *testing.T) {
	q := parsed(t, "table 0\njoin 0 0 1 1\n")
	if _, e := Eval(q, rows(400, 1), nil); e != api.ErrLarge {
		t.Error(e)
	}
	if _, e := Eval(q, rows(400, 1), []api.Item{item(1, 1)}); e != api.ErrForm {
		t.Error(e)
	}
}
