package zset

import (
	"math"
	"slices"
	"testing"

	"viewmere/api"
)

// roomy: the same items, with room behind the list and behind each row that is written full.
func roomy(l []api.Item) []api.Item {
	var copied []api.Item
	for _, x := range l {
		row := append(slices.Clone(x.Row), -77, -77)
		copied = append(copied, api.Item{Row: row[:len(x.Row)], N: x.N})
	}
	copied = append(copied, item(-7, -7), item(-7, -7))
	return copied[:len(l)]
}

// whole: a copy of a list and of its rows, the room behind them included.
func whole(l []api.Item) []api.Item {
	copied := append([]api.Item(nil), l[:cap(l)]...)
	for i, x := range copied {
		copied[i].Row = append([]int(nil), x.Row[:cap(x.Row)]...)
	}
	return copied
}

// copyOf: a copy of a list and of its rows.
func copyOf(l []api.Item) []api.Item {
	copied := append([]api.Item(nil), l...)
	for i, x := range copied {
		copied[i].Row = append([]int(nil), x.Row...)
	}
	return copied
}

// scrawl: writes over a list, its rows, and the room behind them.
func scrawl(l []api.Item) {
	l = l[:cap(l)]
	for i := range l {
		scrawlRow(l[i].Row)
		l[i] = item(-9, -9)
	}
}

// scrawlRow: writes over a row and the room behind it.
func scrawlRow(row []int) {
	row = row[:cap(row)]
	for i := range row {
		row[i] = -99
	}
}

// calls: each call that answers a set, of one or two lists.
func calls() map[string]func(a, b []api.Item) ([]api.Item, api.Errno) {
	return map[string]func(a, b []api.Item) ([]api.Item, api.Errno){
		"Norm":            func(a, b []api.Item) ([]api.Item, api.Errno) { return Norm(a) },
		"Neg":             func(a, b []api.Item) ([]api.Item, api.Errno) { return Neg(a) },
		"Add":             Add,
		"Add to none":     func(a, b []api.Item) ([]api.Item, api.Errno) { return Add(nil, b) },
		"Add none":        func(a, b []api.Item) ([]api.Item, api.Errno) { return Add(a, nil) },
		"Add with itself": func(a, b []api.Item) ([]api.Item, api.Errno) { return Add(a, a) },
	}
}

// P2: nothing that is handed in is changed, and no answer shares memory with it or with another one.
func TestMemory(t *testing.T) {
	a := []api.Item{item(1), item(2, 1), item(3, 1, 2), item(4, 1, 3, 0, 9), item(1, 5)}
	b := []api.Item{item(2), item(-2, 1), item(3, 1, 2, 4), item(4, 1, 3), item(1, 6)}
	for name, call := range calls() {
		p, q := roomy(a), roomy(b)
		wholeP, wholeQ := whole(p), whole(q)
		one, e := call(p, q)
		two, f := call(p, q)
		if e != api.OK || f != api.OK || !same(one, two) || len(one) == 0 {
			t.Error(name, one, e, two, f)
		}
		want := copyOf(two)
		scrawl(one)
		if !same(two, want) {
			t.Error(name, "shares with another answer", two)
		}
		if !same(whole(p), wholeP) || !same(whole(q), wholeQ) {
			t.Error(name, "changes what is handed in, or shares it", p, q)
		}
		scrawl(p)
		scrawl(q)
		if !same(two, want) {
			t.Error(name, "keeps what was handed in", two)
		}
		if three, e := call(roomy(a), roomy(b)); e != api.OK || !same(three, want) {
			t.Error(name, "hangs on earlier calls", three, e)
		}
	}
}

// P2: an error leaves alone what was handed in, too, and so do Check and Order.
func TestMemoryBesideErrors(t *testing.T) {
	wrong := roomy([]api.Item{item(1, 2), item(api.MaxWeight, 1), item(1, 1)})
	before := whole(wrong)
	Norm(wrong)
	Neg(wrong)
	Add(wrong, nil)
	Add(nil, wrong)
	Check(wrong)
	Order(wrong[0].Row, wrong[1].Row)
	if !same(whole(wrong), before) {
		t.Error(wrong)
	}
	// Lists that are not in order yet are where sorting in place would be seen.
	mixed := roomy([]api.Item{item(1, 2), item(1, 0), item(1, 1), item(2, 0), item(-1, 2)})
	before = whole(mixed)
	if l, e := Norm(mixed); e != api.OK || !same(l, []api.Item{item(3, 0), item(1, 1)}) || !same(whole(mixed), before) {
		t.Error(l, e, mixed)
	}
}

// P2: the rows of one answer share nothing with one another, the room behind them included.
func TestRowsApart(t *testing.T) {
	shared := make([]int, 8)
	handed := []api.Item{item(1, shared[:0]...), item(1, shared[:1]...), item(1, shared[:3]...), item(1, shared...)}
	answers := map[string][]api.Item{}
	for name, call := range calls() {
		l, e := call(handed, handed)
		if e != api.OK || len(l) != len(handed) {
			t.Error(name, l, e)
		}
		answers[name] = l
	}
	rowsOf, e := Of(edited([3]int{3, 1, 7}, [3]int{4, 1, 7}, [3]int{5, 0, 2}))
	if e != api.OK || len(rowsOf) != 3 {
		t.Error(rowsOf, e)
	}
	answers["Of"] = rowsOf
	for name, l := range answers {
		for i := range l {
			others := copyOf(slices.Delete(slices.Clone(l), i, i+1))
			scrawlRow(l[i].Row)
			if !same(others, slices.Delete(slices.Clone(l), i, i+1)) {
				t.Error(name, "row", i, "shares with another one", l)
			}
		}
	}
	if !slices.Equal(shared, make([]int, 8)) {
		t.Error(shared)
	}
}

// P2: Of leaves the table alone, and answers memory of its own each time.
func TestMemoryOfTables(t *testing.T) {
	table := edited([3]int{5, 0, 2}, [3]int{3, 1, 7}, [3]int{3, 1, 9})
	cells := slices.Clone(table.Cells)
	one, _ := Of(table)
	two, _ := Of(table)
	want := copyOf(two)
	scrawl(one)
	if !same(two, want) || !slices.Equal(table.Cells, cells) {
		t.Error(two, table)
	}
	for i := range table.Cells {
		table.Cells[i] = api.Cell{}
	}
	if !same(two, want) {
		t.Error(two)
	}
}

// P1: no call panics, whatever it is given, and what is told beside OK is a set.
func TestNoPanic(t *testing.T) {
	numbers := []int{math.MinInt, -api.MaxNumber, -api.MaxWeight, -1, 0, 1, 9, api.MaxWeight, api.MaxWeight + 1, api.MaxNumber, math.MaxInt}
	lists := [][]api.Item{nil, rows(api.MaxItems+9, 5, -1), make([]api.Item, 3), {item(1, make([]int, 1000)...)}}
	for _, m := range numbers {
		for _, n := range numbers {
			lists = append(lists, []api.Item{item(n, m), item(m, n)}, []api.Item{item(m), item(n, n, m), item(m, n, m)})
		}
	}
	for _, a := range lists {
		for _, b := range lists {
			for name, call := range calls() {
				l, e := call(a, b)
				if Check(l) != api.OK || e != api.OK && l != nil {
					t.Fatal(name, a, b, l, e)
				}
			}
		}
	}
	for _, m := range numbers {
		for _, n := range numbers {
			table := edited([3]int{m, n, m}, [3]int{n, m, n})
			table.Context.Clock[0], table.Cells[0].Dot.Seq = m, n
			if l, e := Of(table); Check(l) != api.OK || e != api.OK && l != nil {
				t.Fatal(table, l, e)
			}
		}
	}
}
