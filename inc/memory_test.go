package inc

import (
	"testing"

	"viewmere/api"
	"viewmere/query"
)

// roomy: the same items, with room behind the list and behind each row.
func roomy(l []api.Item) []api.Item {
	copied := make([]api.Item, 0, len(l)+2)
	for _, x := range l {
		row := make([]int, 0, len(x.Row)+3)
		copied = append(copied, api.Item{Row: append(row, x.Row...), N: x.N})
	}
	return copied
}

// roomySteps: the same steps, with room behind the query and behind each list.
func roomySteps(q []api.Step) []api.Step {
	copied := make([]api.Step, 0, len(q)+2)
	for _, s := range q {
		s.List = append(make([]int, 0, len(s.List)+3), s.List...)
		copied = append(copied, s)
	}
	return copied
}

// scrawl: writes over a list, its rows, and the room behind them.
func scrawl(l []api.Item) {
	for i := range l {
		scrawlRow(l[i].Row)
	}
	l = l[:cap(l)]
	for i := range l {
		l[i] = item(-9, -9)
	}
}

// scrawlSteps: writes over a query, its lists, and the room behind them.
func scrawlSteps(q []api.Step) {
	for i := range q {
		scrawlRow(q[i].List)
	}
	q = q[:cap(q)]
	for i := range q {
		q[i] = api.Step{Kind: -9}
	}
}

// scrawlRow: writes over a row and the room behind it.
func scrawlRow(row []int) {
	row = row[:cap(row)]
	for i := range row {
		row[i] = -99
	}
}

// unchanged: has a list made by roomy its items still, and its room nothing?
func unchanged(l, want []api.Item) bool {
	for _, x := range l {
		for _, n := range x.Row[len(x.Row):cap(x.Row)] {
			if n != 0 {
				return false
			}
		}
	}
	for _, x := range l[len(l):cap(l)] {
		if x.Row != nil || x.N != 0 {
			return false
		}
	}
	return same(l, want)
}

// unchangedSteps: has a query made by roomySteps its steps still, and its room nothing?
func unchangedSteps(q, want []api.Step) bool {
	for _, s := range q {
		for _, n := range s.List[len(s.List):cap(s.List)] {
			if n != 0 {
				return false
			}
		}
	}
	for _, s := range q[len(q):cap(q)] {
		if s.Kind != 0 || s.List != nil {
			return false
		}
	}
	return sameSteps(q, want)
}

// P2: what is handed in is not changed and not kept, and what is told is new memory: whatever is
// written over either, a view tells what one tells that was left alone.
func TestMemory(t *testing.T) {
	a := items{item(1, 1, 5, 0, 2), item(2, 2, 5, 1, 3), item(3, 3, 6, 0, 4), item(-1, 4, 5, 5, 5)}
	b := items{item(1, 5, 9, 9, 9), item(2, 6, 5, 8, 8)}
	wrong := items{item(1, 2, 0, 0, 0), item(1, 1, 0, 0, 0)}
	for _, s := range texts() {
		steps, _, _ := query.Parse(s)
		q := roomySteps(steps)
		v, _ := New(q)
		alone := viewOf(t, s)
		if !unchangedSteps(q, steps) {
			t.Error(s, "New changes its query")
		}
		scrawlSteps(q)
		for i, x := range []struct{ a, b items }{{a, nil}, {nil, b}, {wrong, b}, {a, wrong}, {b, a}, {a[:2], b[1:]}} {
			c, d := roomy(x.a), roomy(x.b)
			l, e := v.Feed(c, d)
			want, f := alone.Feed(x.a, x.b)
			if e != f || !same(l, want) {
				t.Error(s, i, l, e, want, f)
			}
			if !unchanged(c, x.a) || !unchanged(d, x.b) {
				t.Error(s, i, "Feed changes what is handed in", c, d)
			}
			scrawl(c)
			scrawl(d)
			if !same(l, want) {
				t.Error(s, i, "Feed tells what was handed in", l)
			}
			scrawl(l)
			scrawl(v.All())
			scrawlSteps(v.Query())
			if !same(v.All(), alone.All()) || !sameSteps(v.Query(), steps) {
				t.Error(s, i, "tells what it keeps", v.All(), v.Query())
			}
		}
	}
}

// P2: the rows of an answer share nothing with one another, or with another answer, the room behind
// them included.
func TestRowsApart(t *testing.T) {
	a, b := rows(0, 5, 2), rows(3, 5, 1)
	for _, s := range texts() {
		v := viewOf(t, s)
		v.Feed(a, b)
		earlier := v.All()
		want := viewOf(t, s)
		want.Feed(a, b)
		told, _ := v.Feed(b, a)
		wantTold, _ := want.Feed(b, a)
		for _, x := range []struct{ l, want items }{{told, wantTold}, {v.All(), want.All()}} {
			for i := range x.l {
				scrawlRow(x.l[i].Row)
				copy(x.l[i].Row, x.want[i].Row)
				if !same(x.l, x.want) {
					t.Fatal(s, "row", i, "shares with another one", x.l)
				}
			}
		}
		back, _ := v.Feed(turn(b), turn(a))
		scrawl(back)
		if !same(v.All(), earlier) {
			t.Error(s, "shares with an earlier answer", v.All(), earlier)
		}
	}
}

// turn: the same rows, as many times fewer.
func turn(l []api.Item) []api.Item {
	var turned []api.Item
	for _, x := range l {
		turned = append(turned, api.Item{Row: x.Row, N: -x.N})
	}
	return turned
}

// P2: the lists of a told query share nothing with one another.
func TestListsApart(t *testing.T) {
	v := viewOf(t, "table 0\npick 0 1,2\npick 0 3\npick 1 1,0,1\n")
	want, q := v.Query(), v.Query()
	for i := range q {
		scrawlRow(q[i].List)
		copy(q[i].List, want[i].List)
		q[i].List = append(q[i].List, 7)[:len(q[i].List)]
	}
	if !sameSteps(q, want) {
		t.Error(q, want)
	}
}

// P2: views have nothing in common, made of the same query or one copied from the other.
func TestViewsApart(t *testing.T) {
	q, _, _ := query.Parse("table 0\ntable 1\nunion 0 1\n")
	one, _ := New(q)
	two, _ := New(q)
	one.Feed(rows(0, 3, 1), rows(3, 2, 1))
	if len(two.All()) != 0 {
		t.Error(two.All())
	}
	copied := *one
	copied.Feed(rows(1, 2, -1), nil)
	two.Feed(nil, rows(9, 1, 1))
	if !same(one.All(), rows(0, 5, 1)) || !same(two.All(), rows(9, 1, 1)) {
		t.Error(one.All(), two.All())
	}
	one.Feed(rows(0, 3, -1), rows(3, 2, -1))
	if l := copied.All(); !same(l, items{item(1, 0, 5, 6, 7), item(1, 3, 5, 6, 7), item(1, 4, 5, 6, 7)}) {
		t.Error(l)
	}
}
