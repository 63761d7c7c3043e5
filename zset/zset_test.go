package zset

import (
	"maps"
	"math"
	"slices"
	"testing"

	"viewmere/api"
	"viewmere/table"
)

// item: a row n times.
func item(n int, row ...int) api.Item { return api.Item{Row: row, N: n} }

// same: are two sets the same, an empty list being as good as none?
func same(a, b []api.Item) bool {
	return slices.EqualFunc(a, b, func(x, y api.Item) bool { return x.N == y.N && slices.Equal(x.Row, y.Row) })
}

// rows: n rows, each once, from that number on, step by step.
func rows(n, first, step int) []api.Item {
	l := []api.Item{}
	for i := range n {
		l = append(l, item(1, first+i*step))
	}
	return l
}

// smallRows: all rows of at most two numbers from -1 to 1, in their order.
func smallRows() [][]int {
	l := [][]int{{}}
	for a := -1; a <= 1; a++ {
		l = append(l, []int{a})
		for b := -1; b <= 1; b++ {
			l = append(l, []int{a, b})
		}
	}
	return l
}

// smallSets: all sets over four rows, each from -1 to 1 times.
func smallSets() [][]api.Item {
	all := [][]api.Item{nil}
	for _, row := range [][]int{nil, {-1}, {0}, {0, 0}} {
		for _, l := range slices.Clone(all) {
			for _, n := range []int{-1, 1} {
				all = append(all, append(slices.Clone(l), item(n, row...)))
			}
		}
	}
	return all
}

// counts: a model of sets: how many times each row is there. Numbers of the rows are from -9 on.
func counts(lists ...[]api.Item) map[string]int {
	m := map[string]int{}
	for _, l := range lists {
		for _, x := range l {
			key := ""
			for _, n := range x.Row {
				key += string(rune(n + 10))
			}
			m[key] += x.N
			if m[key] == 0 {
				delete(m, key)
			}
		}
	}
	return m
}

// P8: the order of rows.
func TestOrder(t *testing.T) {
	l := append(smallRows(), []int{2}, []int{2, math.MinInt}, []int{2, math.MaxInt}, []int{math.MaxInt}, []int{math.MaxInt, 0})
	l = append([][]int{nil, {math.MinInt}, {math.MinInt, 0}}, l[1:]...)
	for i, a := range l {
		for j, b := range l {
			want := 0
			if i < j {
				want = -1
			} else if i > j {
				want = 1
			}
			if got := Order(a, b); got != want {
				t.Error(a, b, got, want)
			}
		}
	}
	if Order(nil, []int{}) != 0 || Order([]int{}, nil) != 0 {
		t.Error("no row, and an empty one, are the same")
	}
}

// P8: sets as they must be, up to the edges.
func TestCheckOfSets(t *testing.T) {
	const m, w = api.MaxNumber, api.MaxWeight
	for _, l := range [][]api.Item{
		nil,
		{},
		{item(1)},
		{{Row: []int{}, N: -1}},
		{item(w, -m), item(-w, m)},
		{item(1, 1, 2, 3, 4, 5, 6, 7, 8)},
		{item(1, m, m, m, m, m, m, m, -m), item(1, m, m, m, m, m, m, m, m)},
		{item(3), item(2, 0), item(1, 0, -5), item(1, 0, -5, -5), item(9, 1)},
		rows(api.MaxItems, 0, 1),
	} {
		if e := Check(l); e != api.OK {
			t.Error(l, e)
		}
	}
}

// P8: lists that are no sets.
func TestCheckOfWrongLists(t *testing.T) {
	const m, w = api.MaxNumber, api.MaxWeight
	large := rows(api.MaxItems+1, 0, 1)
	unordered := rows(api.MaxItems+1, 0, -1)
	for _, x := range []struct {
		l    []api.Item
		want api.Errno
	}{
		{large, api.ErrLarge},
		{unordered, api.ErrLarge},
		{make([]api.Item, api.MaxItems+1), api.ErrLarge},
		{make([]api.Item, api.MaxItems), api.ErrForm},
		{[]api.Item{item(1, 1, 2, 3, 4, 5, 6, 7, 8, 9)}, api.ErrForm},
		{[]api.Item{item(1, m+1)}, api.ErrForm},
		{[]api.Item{item(1, -m-1)}, api.ErrForm},
		{[]api.Item{item(1, 1, 2, 3, 4, 5, 6, 7, m+1)}, api.ErrForm},
		{[]api.Item{item(1, math.MinInt)}, api.ErrForm},
		{[]api.Item{item(0, 1)}, api.ErrForm},
		{[]api.Item{item(0)}, api.ErrForm},
		{[]api.Item{item(w+1, 1)}, api.ErrForm},
		{[]api.Item{item(-w-1, 1)}, api.ErrForm},
		{[]api.Item{item(math.MinInt, 1)}, api.ErrForm},
		{[]api.Item{item(1, 1), item(1, 1)}, api.ErrForm},
		{[]api.Item{item(1, 1), item(-1, 1)}, api.ErrForm},
		{[]api.Item{item(1), item(1)}, api.ErrForm},
		{[]api.Item{item(1, 2), item(1, 1)}, api.ErrForm},
		{[]api.Item{item(1, 1, 0), item(1, 1)}, api.ErrForm},
		{[]api.Item{item(1, 1), item(1, 3), item(1, 2)}, api.ErrForm},
		{[]api.Item{item(1, 1), item(1, 2), item(0, 3)}, api.ErrForm},
	} {
		if e := Check(x.l); e != x.want {
			t.Error(x.l, e, x.want)
		}
	}
}

// P8: Norm of each list of up to three items over small rows and weights tells what it has in all.
func TestNormOfSmallLists(t *testing.T) {
	var items []api.Item
	for _, row := range [][]int{nil, {-1}, {0}, {0, 0}} {
		for n := -1; n <= 1; n++ {
			items = append(items, item(n, row...))
		}
	}
	lists := [][]api.Item{nil}
	for from := 0; from < len(lists); from++ {
		l := lists[from]
		set, e := Norm(l)
		if e != api.OK || Check(set) != api.OK || !maps.Equal(counts(set), counts(l)) {
			t.Fatal(l, set, e)
		}
		for _, x := range items {
			if len(l) < 3 {
				lists = append(lists, append(slices.Clone(l), x))
			}
		}
	}
}

// P8: a set is as it was; in whatever order its items are, they are the same set.
func TestNormOfSets(t *testing.T) {
	for _, l := range append(smallSets(), rows(api.MaxItems, -7, 3)) {
		back := slices.Clone(l)
		slices.Reverse(back)
		for _, x := range [][]api.Item{l, back} {
			if set, e := Norm(x); e != api.OK || !same(set, l) {
				t.Fatal(x, set, e)
			}
		}
	}
}

// P8: the edges of Norm: how often a row may be there is asked of each item, and of all together.
func TestNormEdges(t *testing.T) {
	const m, w = api.MaxNumber, api.MaxWeight
	for _, x := range []struct{ l, want []api.Item }{
		{[]api.Item{item(w, 1), item(w, 1), item(-w, 1)}, []api.Item{item(w, 1)}},
		{[]api.Item{item(-w, 1), item(-w, 1), item(w, 1)}, []api.Item{item(-w, 1)}},
		{[]api.Item{item(w, 1), item(-w, 1)}, nil},
		{[]api.Item{item(5, 1), item(-5, 1)}, nil},
		{[]api.Item{item(w-1, 1), item(1, 1)}, []api.Item{item(w, 1)}},
		{[]api.Item{item(1-w, 1), item(-1, 1)}, []api.Item{item(-w, 1)}},
		{[]api.Item{item(w, 1), item(w, 2)}, []api.Item{item(w, 1), item(w, 2)}},
		{[]api.Item{item(0, 1), item(0)}, nil},
		{make([]api.Item, api.MaxItems), nil},
		{[]api.Item{item(1, m), item(1, -m), item(1), {Row: []int{}, N: 1}}, []api.Item{item(2), item(1, -m), item(1, m)}},
		{[]api.Item{item(1, 1, 2, 3, 4, 5, 6, 7, 9), item(1, 1, 2, 3, 4, 5, 6, 7, 8)}, []api.Item{item(1, 1, 2, 3, 4, 5, 6, 7, 8), item(1, 1, 2, 3, 4, 5, 6, 7, 9)}},
	} {
		if set, e := Norm(x.l); e != api.OK || !same(set, x.want) {
			t.Error(x.l, set, e)
		}
	}
	many := slices.Repeat([]api.Item{item(w, 1), item(-w, 1)}, api.MaxItems/2)
	if set, e := Norm(many); e != api.OK || len(set) != 0 {
		t.Error(set, e)
	}
}

// P8: what Norm refuses.
func TestNormOfWrongLists(t *testing.T) {
	const m, w = api.MaxNumber, api.MaxWeight
	for _, x := range []struct {
		l    []api.Item
		want api.Errno
	}{
		{rows(api.MaxItems+1, 0, 1), api.ErrLarge},
		{rows(api.MaxItems+1, 0, 0), api.ErrLarge},
		{make([]api.Item, api.MaxItems+1), api.ErrLarge},
		{append(rows(api.MaxItems, 0, 1), item(w+1, m+1)), api.ErrLarge},
		{[]api.Item{item(1, 1, 2, 3, 4, 5, 6, 7, 8, 9)}, api.ErrForm},
		{[]api.Item{item(0, 1, 2, 3, 4, 5, 6, 7, 8, 9)}, api.ErrForm},
		{[]api.Item{item(0, m+1)}, api.ErrForm},
		{[]api.Item{item(1, -m-1)}, api.ErrForm},
		{[]api.Item{item(w+1, 1)}, api.ErrForm},
		{[]api.Item{item(-w-1, 1)}, api.ErrForm},
		{[]api.Item{item(w+1, 1), item(-1, 1)}, api.ErrForm},
		{[]api.Item{item(-1, 1), item(w+1, 1)}, api.ErrForm},
		{[]api.Item{item(math.MinInt, 1), item(math.MinInt, 1)}, api.ErrForm},
		{[]api.Item{item(w, 1), item(1, 1)}, api.ErrForm},
		{[]api.Item{item(-w, 1), item(-1, 1)}, api.ErrForm},
		{[]api.Item{item(w, 1), item(1, 0), item(1, 1), item(1, 2)}, api.ErrForm},
		{slices.Repeat([]api.Item{item(w, 1)}, api.MaxItems), api.ErrForm},
	} {
		if set, e := Norm(x.l); e != x.want || set != nil {
			t.Error(x.l, set, e, x.want)
		}
	}
}

// P9: Add and Neg of all small sets, held against the model.
func TestAddAndNegOfSmallSets(t *testing.T) {
	for _, a := range smallSets() {
		neg, e := Neg(a)
		if e != api.OK || Check(neg) != api.OK || len(neg) != len(a) {
			t.Fatal(a, neg, e)
		}
		for i, x := range neg {
			if x.N != -a[i].N || !slices.Equal(x.Row, a[i].Row) {
				t.Fatal(a, neg)
			}
		}
		if l, e := Add(a, neg); e != api.OK || len(l) != 0 {
			t.Fatal(a, l, e)
		}
		for _, b := range smallSets() {
			l, e := Add(a, b)
			if e != api.OK || Check(l) != api.OK || !maps.Equal(counts(l), counts(a, b)) {
				t.Fatal(a, b, l, e)
			}
		}
	}
}

// P9: the edges of Add: how often a row may be there, and how many rows.
func TestAddEdges(t *testing.T) {
	const w = api.MaxWeight
	full := rows(api.MaxItems, 0, 2)
	negFull, _ := Neg(full)
	heavy := append([]api.Item{item(w, -1)}, full[1:]...)
	for _, x := range []struct {
		a, b []api.Item
		n    int
		want api.Errno
	}{
		{nil, nil, 0, api.OK},
		{[]api.Item{item(w-1, 1)}, []api.Item{item(1, 1)}, 1, api.OK},
		{[]api.Item{item(1-w, 1)}, []api.Item{item(-1, 1)}, 1, api.OK},
		{[]api.Item{item(w, 1)}, []api.Item{item(-w, 1)}, 0, api.OK},
		{[]api.Item{item(w, 1)}, []api.Item{item(1, 1)}, 0, api.ErrForm},
		{[]api.Item{item(-w, 1)}, []api.Item{item(-1, 1)}, 0, api.ErrForm},
		{[]api.Item{item(w, 1)}, []api.Item{item(w, 1)}, 0, api.ErrForm},
		{full, full, api.MaxItems, api.OK},
		{full, nil, api.MaxItems, api.OK},
		{nil, full, api.MaxItems, api.OK},
		{full, negFull, 0, api.OK},
		{full, rows(1, 1, 1), 0, api.ErrLarge},
		{rows(1, 1, 1), full, 0, api.ErrLarge},
		{full[1:], rows(1, 1, 1), api.MaxItems, api.OK},
		{rows(api.MaxItems/2, 0, 2), rows(api.MaxItems/2, 1, 2), api.MaxItems, api.OK},
		{rows(api.MaxItems/2, 0, 2), rows(api.MaxItems/2+1, 1, 2), 0, api.ErrLarge},
		// One row goes as one comes: there is room for it.
		{full, []api.Item{item(-1, 0), item(1, 1)}, api.MaxItems, api.OK},
		{full, []api.Item{item(-1, 0), item(1, 1), item(1, 3)}, 0, api.ErrLarge},
		{full, rows(api.MaxItems, 1, 2), 0, api.ErrLarge},
		// ErrForm is told first, wherever the row stands.
		{heavy, []api.Item{item(1, -1), item(1, 1), item(1, 3)}, 0, api.ErrForm},
		{append(slices.Clone(full[1:]), item(w, 9999)), []api.Item{item(1, 1), item(1, 3), item(1, 9999)}, 0, api.ErrForm},
	} {
		l, e := Add(x.a, x.b)
		if e != x.want || len(l) != x.n || Check(l) != api.OK || e != api.OK && l != nil {
			t.Error(len(x.a), len(x.b), len(l), e, x.want)
		}
	}
}

// P9: of what is no set Add and Neg tell Check's error, Add that of a first.
func TestAddAndNegOfWrongLists(t *testing.T) {
	large, wrong, right := rows(api.MaxItems+1, 0, 1), []api.Item{item(0, 1)}, rows(2, 0, 1)
	for _, x := range []struct {
		a, b []api.Item
		want api.Errno
	}{
		{large, right, api.ErrLarge},
		{right, large, api.ErrLarge},
		{wrong, right, api.ErrForm},
		{right, wrong, api.ErrForm},
		{large, wrong, api.ErrLarge},
		{wrong, large, api.ErrForm},
		{[]api.Item{item(1, 2), item(1, 1)}, nil, api.ErrForm},
		{nil, []api.Item{item(1, 1), item(1, 1)}, api.ErrForm},
		{[]api.Item{item(1, api.MaxNumber+1)}, nil, api.ErrForm},
		// Neither of these is a set, though both together were one.
		{[]api.Item{item(api.MaxWeight+1, 1)}, []api.Item{item(-1, 1)}, api.ErrForm},
		{[]api.Item{item(-1, 1)}, []api.Item{item(api.MaxWeight+1, 1)}, api.ErrForm},
	} {
		if l, e := Add(x.a, x.b); e != x.want || l != nil {
			t.Error(x.a, x.b, l, e, x.want)
		}
	}
	for _, x := range []struct {
		a    []api.Item
		want api.Errno
	}{
		{large, api.ErrLarge},
		{wrong, api.ErrForm},
		{[]api.Item{item(1, 2), item(1, 1)}, api.ErrForm},
		{[]api.Item{item(api.MaxWeight+1, 1)}, api.ErrForm},
		{[]api.Item{item(1, 1, 2, 3, 4, 5, 6, 7, 8, 9)}, api.ErrForm},
	} {
		if l, e := Neg(x.a); e != x.want || l != nil {
			t.Error(x.a, l, e, x.want)
		}
	}
	const w = api.MaxWeight
	if l, e := Neg([]api.Item{item(w, 1), item(-w, 2)}); e != api.OK || !same(l, []api.Item{item(-w, 1), item(w, 2)}) {
		t.Error(l, e)
	}
}

// edited: a table with these values, each by an edit that has seen none of the others; a value is
// told as key, column, value.
func edited(values ...[3]int) api.Table {
	var t api.Table
	for i, x := range values {
		cell := api.Cell{Dot: api.Dot{Node: 1, Seq: i + 1}, Key: x[0], Col: x[1], Value: x[2]}
		t.Cells = append(t.Cells, cell)
	}
	t.Context.Clock[1] = len(values)
	return t
}

// P9: the rows of a table.
func TestOf(t *testing.T) {
	for _, x := range []struct {
		table api.Table
		want  []api.Item
	}{
		{api.Table{}, nil},
		{api.Table{Context: api.Context{Clock: [api.Nodes]int{9}}}, nil},
		{edited([3]int{3, 1, 7}), []api.Item{item(1, 3, 0, 7, 0)}},
		{edited([3]int{3, 1, 7}, [3]int{3, 1, 9}), []api.Item{item(1, 3, 0, 9, 0)}},
		{edited([3]int{3, 1, 9}, [3]int{3, 1, 7}), []api.Item{item(1, 3, 0, 9, 0)}},
		{edited([3]int{3, 1, 9}, [3]int{3, 1, 9}), []api.Item{item(1, 3, 0, 9, 0)}},
		// The greatest of values below 0 is below 0: the 0 is for none alone.
		{edited([3]int{3, 2, -7}, [3]int{3, 2, -5}, [3]int{3, 0, -1000}), []api.Item{item(1, 3, -1000, 0, -5)}},
		{edited([3]int{0, 0, 0}), []api.Item{item(1, 0, 0, 0, 0)}},
		{edited([3]int{49, 2, 1000}, [3]int{0, 0, 5}, [3]int{7, 1, 1}, [3]int{0, 2, 4}),
			[]api.Item{item(1, 0, 5, 0, 4), item(1, 7, 0, 1, 0), item(1, 49, 0, 0, 1000)}},
		// Rows with the same values are apart by their keys.
		{edited([3]int{2, 0, 5}, [3]int{1, 0, 5}), []api.Item{item(1, 1, 5, 0, 0), item(1, 2, 5, 0, 0)}},
	} {
		if l, e := Of(x.table); e != api.OK || !same(l, x.want) || Check(l) != api.OK {
			t.Error(x.table, l, e)
		}
	}
}

// P9: a table that is full, with all keys: its rows are those that Keys and Values tell.
func TestOfFullTable(t *testing.T) {
	var values [][3]int
	for i := range api.MaxDots {
		values = append(values, [3]int{i * 7 % api.Keys, i / 7 % api.Cols, i*37%2001 - 1000})
	}
	full := edited(values...)
	l, e := Of(full)
	if e != api.OK || Check(l) != api.OK || len(l) != api.Keys {
		t.Fatal(l, e)
	}
	for key, x := range l {
		want := item(1, key)
		for col := range api.Cols {
			best := 0
			if all := table.Values(full, key, col); len(all) > 0 {
				best = slices.Max(all)
			}
			want.Row = append(want.Row, best)
		}
		if !same([]api.Item{x}, []api.Item{want}) {
			t.Error(x, want)
		}
	}
}

// P9: of a wrong table Of tells the error of table.Check.
func TestOfWrongTables(t *testing.T) {
	large := edited(make([][3]int, api.MaxDots+1)...)
	unseen := edited([3]int{3, 1, 7})
	unseen.Context.Clock[1] = 0
	cloud := edited([3]int{3, 1, 7})
	cloud.Context.Cloud = []api.Dot{{Node: 9, Seq: 1}}
	crowd := edited()
	for i := range api.MaxDots + 1 {
		crowd.Context.Cloud = append(crowd.Context.Cloud, api.Dot{Node: 0, Seq: 2*i + 2})
	}
	for _, x := range []struct {
		table api.Table
		want  api.Errno
	}{
		{large, api.ErrLarge},
		{crowd, api.ErrLarge},
		{unseen, api.ErrForm},
		{cloud, api.ErrForm},
		{edited([3]int{api.Keys, 1, 7}), api.ErrForm},
		{edited([3]int{-1, 1, 7}), api.ErrForm},
		{edited([3]int{3, api.Cols, 7}), api.ErrForm},
		{edited([3]int{3, 1, api.MaxValue + 1}), api.ErrForm},
	} {
		if l, e := Of(x.table); e != x.want || l != nil || e != table.Check(x.table) {
			t.Error(x.table, l, e, x.want)
		}
	}
}
