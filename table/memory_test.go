package table

import (
	"math"
	"slices"
	"testing"

	"viewmere/api"
)

// roomy: a table with the same lists, and with room behind them that is written full.
func roomy(t api.Table) api.Table {
	x := t
	cloud := append(slices.Clone(t.Context.Cloud), d(-7, -7), d(-7, -7))
	cells := append(slices.Clone(t.Cells), cell(-7, -7, 7, 7, 7), cell(-7, -7, 7, 7, 7))
	x.Context.Cloud, x.Cells = cloud[:len(t.Context.Cloud)], cells[:len(t.Cells)]
	return x
}

// whole: a copy of a table's lists, the room behind them included.
func whole(t api.Table) api.Table {
	cloud, cells := t.Context.Cloud, t.Cells
	return api.Table{Context: api.Context{Clock: t.Context.Clock, Cloud: slices.Clone(cloud[:cap(cloud)])}, Cells: slices.Clone(cells[:cap(cells)])}
}

// scrawl: writes over a table's lists and the room behind them.
func scrawl(t api.Table) {
	cloud, cells := t.Context.Cloud[:cap(t.Context.Cloud)], t.Cells[:cap(t.Cells)]
	for i := range cloud {
		cloud[i] = d(-9, -9)
	}
	for i := range cells {
		cells[i] = cell(-9, -9, -9, -9, -9)
	}
}

// P2: nothing that is handed in is changed, and no answer shares memory with it or with another one.
func TestMemory(t *testing.T) {
	a := clouded([4]int{2, 3}, []api.Dot{d(1, 7), d(2, 5)}, cell(0, 2, 3, 1, 7), cell(1, 2, 4, 1, 7), cell(1, 7, 3, 1, 5), cell(2, 5, 0, 0, 1))
	b := clouded([4]int{1, 2}, []api.Dot{d(1, 7), d(3, 5)}, cell(1, 2, 4, 1, 7), cell(3, 5, 3, 1, 9))
	for _, x := range []struct {
		name string
		call func(a, b api.Table) (api.Table, api.Errno)
		a, b api.Table
	}{
		{"Put", func(a, b api.Table) (api.Table, api.Errno) { return Put(a, 0, 3, 1, 1) }, a, b},
		{"Del", func(a, b api.Table) (api.Table, api.Errno) { return Del(a, 3) }, a, b},
		{"Merge", Merge, a, b},
		{"Merge with none", Merge, a, api.Table{}},
		{"Merge to none", Merge, api.Table{}, a},
		{"Merge with itself", Merge, a, a},
		{"Since", func(a, b api.Table) (api.Table, api.Errno) { return Since(a, b.Context) }, a, b},
		{"Since all", func(a, b api.Table) (api.Table, api.Errno) { return Since(a, b.Context) }, a, a},
		{"Since none", func(a, b api.Table) (api.Table, api.Errno) { return Since(a, b.Context) }, a, api.Table{}},
	} {
		p, q := roomy(x.a), roomy(x.b)
		wholeP, wholeQ := whole(p), whole(q)
		one, e := x.call(p, q)
		two, f := x.call(p, q)
		if e != api.OK || f != api.OK || !same(one, two) {
			t.Error(x.name, one, e, two, f)
		}
		want := whole(two)
		want.Context.Cloud, want.Cells = want.Context.Cloud[:len(two.Context.Cloud)], want.Cells[:len(two.Cells)]
		scrawl(one)
		if !same(two, want) {
			t.Error(x.name, "shares with another answer", two)
		}
		if !same(whole(p), wholeP) || !same(whole(q), wholeQ) {
			t.Error(x.name, "changes what is handed in, or shares it", p, q)
		}
		scrawl(p)
		scrawl(q)
		if !same(two, want) {
			t.Error(x.name, "keeps what was handed in", two)
		}
		if three, e := x.call(roomy(x.a), roomy(x.b)); e != api.OK || !same(three, want) {
			t.Error(x.name, "hangs on earlier calls", three, e)
		}
	}
}

// P2: the calls that ask leave alone what they are given, too, and answer new lists.
func TestMemoryOfAsking(t *testing.T) {
	a := roomy(table([4]int{9}, cell(0, 1, 3, 1, 7), cell(0, 2, 3, 1, 5), cell(0, 3, 1, 1, 5)))
	before := whole(a)
	Check(a)
	for _, call := range []func() []int{
		func() []int { return Values(a, 3, 1) },
		func() []int { return Keys(a) },
	} {
		one, two := call(), call()
		want := slices.Clone(two)
		one = one[:cap(one)]
		for i := range one {
			one[i] = -9
		}
		if !slices.Equal(two, want) || !slices.Equal(call(), want) {
			t.Error(two, want)
		}
	}
	if !same(whole(a), before) {
		t.Error(a)
	}
}

// P1: no call panics, whatever it is given.
func TestNoPanic(t *testing.T) {
	numbers := []int{math.MinInt, -1, 0, 1, 4, api.MaxSeq, api.MaxSeq + 1, math.MaxInt}
	var all []api.Table
	for _, m := range numbers {
		for _, n := range numbers {
			all = append(all,
				clouded([4]int{m, n, n, m}, []api.Dot{d(n, m)}, cell(m, n, m, n, m), cell(n, m, n, m, n)),
				table([4]int{m, 1}, cell(0, n, 0, 0, 0)),
				clouded([4]int{m}, []api.Dot{d(1, n)}, cell(0, 1, 0, 0, 0), cell(1, n, 1, 1, 1)))
		}
	}
	for _, a := range all {
		Check(a)
		Keys(a)
		for _, n := range numbers {
			Put(a, n, 0, 0, 0)
			Put(a, 0, n, n, n)
			Del(a, n)
			Values(a, n, n)
		}
		for _, b := range all {
			Merge(a, b)
			Since(a, b.Context)
		}
	}
}
