package plain

import (
	"slices"
	"testing"

	"viewmere/api"
)

// roomy: the same items, with room behind the list and behind each row that is written full.
func roomy(l []api.Item) []api.Item {
	var copied []api.Item
	for _, x := range l {
		row := append(slices.Clone(x.Row), -77, -77, -77, -77)
		copied = append(copied, api.Item{Row: row[:len(x.Row)], N: x.N})
	}
	copied = append(copied, item(-7, -7), item(-7, -7))
	return copied[:len(l)]
}

// roomySteps: the same steps, with room behind the query and behind each list that is written full.
func roomySteps(q []api.Step) []api.Step {
	copied := append(slices.Clone(q), api.Step{Kind: -7}, api.Step{Kind: -7})
	for i, s := range q {
		copied[i].List = append(slices.Clone(s.List), -77, -77)[:len(s.List)]
	}
	return copied[:len(q)]
}

// whole: a copy of a list and of its rows, the room behind them included.
func whole(l []api.Item) []api.Item {
	copied := append([]api.Item(nil), l[:cap(l)]...)
	for i, x := range copied {
		copied[i].Row = append([]int(nil), x.Row[:cap(x.Row)]...)
	}
	return copied
}

// wholeSteps: a copy of a query and of its lists, the room behind them included.
func wholeSteps(q []api.Step) []api.Step {
	copied := append([]api.Step(nil), q[:cap(q)]...)
	for i, s := range copied {
		copied[i].List = append([]int(nil), s.List[:cap(s.List)]...)
	}
	return copied
}

// sameSteps: are two queries the same?
func sameSteps(a, b []api.Step) bool {
	return slices.EqualFunc(a, b, func(x, y api.Step) bool {
		same := slices.Equal(x.List, y.List)
		x.List, y.List = nil, nil
		return same && x.Kind == y.Kind && x.A == y.A && x.B == y.B && x.Col == y.Col && x.Op == y.Op && x.Value == y.Value
	})
}

// copyOf: a copy of sets and of their rows.
func copyOf(sets [][]api.Item) [][]api.Item {
	var copied [][]api.Item
	for _, l := range sets {
		l = append([]api.Item(nil), l...)
		for i, x := range l {
			l[i].Row = append([]int(nil), x.Row...)
		}
		copied = append(copied, l)
	}
	return copied
}

// scrawl: writes over a list, its rows, and the room behind them.
func scrawl(l []api.Item) {
	l = l[:cap(l)]
	for i := range l {
		scrawlRow(l[i].Row)
		l[i] = item(-9, -9)
	}
}

// scrawlRow: writes over a row and the room behind it.
func scrawlRow(row []int) {
	row = row[:cap(row)]
	for i := range row {
		row[i] = -99
	}
}

// oneOfEach: queries in which each kind of step is there, of both tables, of itself, and of one that
// takes all rows as they are.
func oneOfEach(t *testing.T) [][]api.Step {
	var l [][]api.Step
	for _, s := range []string{
		"table 0\n",
		"table 0\ntable 0\ntable 1\ntable 1\n",
		"table 0\ntable 1\nwhere 0 0 < 1000\nwhere 2 0 > -1000\nunion 0 1\nwhere 4 1 = 5\n",
		"table 0\npick 0 0,1,2,3\npick 1 0,1\ntable 1\npick 3 3\n",
		"table 0\ntable 1\npick 1 0\njoin 0 1 1 0\njoin 0 2 1 0\njoin 0 0 0 0\n",
		"table 0\ntable 1\nminus 0 1\nwhere 0 0 < -1000\nminus 0 3\nunion 0 3\nunion 3 0\nminus 3 0\n",
		"table 0\nunion 0 0\ndistinct 0\ndistinct 2\ncount 0 1\nsum 0 1 0\nunion 4 5\n",
	} {
		l = append(l, parsed(t, s))
	}
	return l
}

// P2: nothing that is handed in is changed, and no answer shares memory with it or with another one.
func TestMemory(t *testing.T) {
	a := []api.Item{item(1, 1, 5, 0, 2), item(2, 2, 5, 1, 3), item(3, 3, 6, 0, 4), item(-1, 4, 5, 5, 5)}
	b := []api.Item{item(1, 5, 9, 9, 9), item(2, 6, 5, 8, 8)}
	for _, q := range oneOfEach(t) {
		calls := map[string]func(q []api.Step, a, b []api.Item) ([][]api.Item, api.Errno){
			"All": All,
			"Eval": func(q []api.Step, a, b []api.Item) ([][]api.Item, api.Errno) {
				l, e := Eval(q, a, b)
				return [][]api.Item{l}, e
			},
		}
		for name, call := range calls {
			p, x, y := roomySteps(q), roomy(a), roomy(b)
			wholeP, wholeX, wholeY := wholeSteps(p), whole(x), whole(y)
			one, e := call(p, x, y)
			two, f := call(p, x, y)
			if e != api.OK || f != api.OK || !sameSets(one, two) || len(one) == 0 {
				t.Fatal(name, one, e, two, f)
			}
			want := copyOf(two)
			for i := range one {
				scrawl(one[i])
			}
			if !sameSets(two, want) {
				t.Error(name, q, "shares with another answer", two)
			}
			if !sameSteps(wholeSteps(p), wholeP) || !same(whole(x), wholeX) || !same(whole(y), wholeY) {
				t.Error(name, "changes what is handed in, or shares it", p, x, y)
			}
			scrawl(x)
			scrawl(y)
			for i := range p {
				scrawlRow(p[i].List)
			}
			if !sameSets(two, want) {
				t.Error(name, q, "keeps what was handed in", two)
			}
			if three, e := call(roomySteps(q), roomy(a), roomy(b)); e != api.OK || !sameSets(three, want) {
				t.Error(name, q, "hangs on earlier calls", three, e)
			}
		}
	}
}

// P2: the sets of one answer, and the rows of a set, share nothing with one another, the room behind
// them included.
func TestSetsApart(t *testing.T) {
	a := []api.Item{item(1, 1, 5, 0, 2), item(2, 2, 5, 1, 3), item(3, 3, 6, 0, 4)}
	b := []api.Item{item(1, 5, 9, 9, 9), item(2, 6, 5, 8, 8)}
	for _, q := range oneOfEach(t) {
		all, _ := All(q, a, b)
		want := copyOf(all)
		for i := range all {
			for j := range all[i] {
				row := all[i][j].Row
				scrawlRow(row)
				copy(row, want[i][j].Row)
				if !sameSets(all, want) {
					t.Fatal(q, "row", j, "of set", i, "shares with another one", all)
				}
			}
		}
		for i := range all {
			scrawl(all[i])
			all[i] = want[i]
			if !sameSets(all, want) {
				t.Fatal(q, "set", i, "shares with another one", all)
			}
		}
		sets, _ := All(q, a, b)
		want = copyOf(sets)
		for i := range sets { // what is laid behind one set is laid into no other one
			sets[i] = append(sets[i], item(1, 1))
			sets[i] = sets[i][:len(want[i])]
		}
		if !sameSets(sets, want) {
			t.Error(q, sets)
		}
	}
}

// P2: rows that share memory where they are handed in don't where they are told.
func TestHandedInRowsThatShare(t *testing.T) {
	numbers := []int{1, 2, 3, 4, 5, 6}
	a := []api.Item{item(1, numbers[:4]...), item(1, numbers[1:5]...), item(1, numbers[2:]...)}
	q := parsed(t, "table 0\ntable 1\nunion 0 1\nminus 0 1\n")
	all, e := All(q, a, a)
	want := copyOf(all)
	for i := range all {
		for j := range all[i] {
			scrawlRow(all[i][j].Row)
			copy(all[i][j].Row, want[i][j].Row)
		}
	}
	if e != api.OK || !sameSets(all, want) || !slices.Equal(numbers, []int{1, 2, 3, 4, 5, 6}) {
		t.Error(all, e, numbers)
	}
}

// P2: an error leaves alone what was handed in, too.
func TestMemoryBesideErrors(t *testing.T) {
	good, wrong := roomy(rows(3, 1)), roomy([]api.Item{item(1, 2, 0, 0, 0), item(1, 1, 0, 0, 0)})
	heavy := roomy(rows(3, w))
	wholeGood, wholeWrong, wholeHeavy := whole(good), whole(wrong), whole(heavy)
	q := roomySteps(parsed(t, "table 0\npick 0 1,2\ntable 1\nunion 0 2\n"))
	wholeQ := wholeSteps(q)
	for _, x := range []struct{ a, b []api.Item }{{good, wrong}, {wrong, good}, {heavy, good}, {good, heavy}} {
		l, e := Eval(q, x.a, x.b)
		all, f := All(q, x.a, x.b)
		if e != api.ErrForm || f != api.ErrForm || l != nil || all != nil {
			t.Error(x, l, e, all, f)
		}
	}
	if !same(whole(good), wholeGood) || !same(whole(wrong), wholeWrong) || !same(whole(heavy), wholeHeavy) || !sameSteps(wholeSteps(q), wholeQ) {
		t.Error(q, good, wrong, heavy)
	}
}
