package table

import (
	"math"
	"reflect"
	"slices"
	"testing"

	"viewmere/api"
	"viewmere/dot"
)

// d: a dot, in short.
func d(node, seq int) api.Dot { return api.Dot{Node: node, Seq: seq} }

// cell: a cell, in short.
func cell(node, seq, key, col, value int) api.Cell {
	return api.Cell{Dot: d(node, seq), Key: key, Col: col, Value: value}
}

// table: a table without a cloud, in short.
func table(clock [api.Nodes]int, cells ...api.Cell) api.Table {
	return api.Table{Context: api.Context{Clock: clock}, Cells: cells}
}

// clouded: a table with a cloud.
func clouded(clock [api.Nodes]int, cloud []api.Dot, cells ...api.Cell) api.Table {
	return api.Table{Context: api.Context{Clock: clock, Cloud: cloud}, Cells: cells}
}

// same: are two tables the same, an empty list being as good as none?
func same(a, b api.Table) bool {
	return a.Context.Clock == b.Context.Clock && slices.Equal(a.Context.Cloud, b.Context.Cloud) && slices.Equal(a.Cells, b.Cells)
}

// isZero: is that the table that is told beside an error?
func isZero(t api.Table) bool { return reflect.DeepEqual(t, api.Table{}) }

// gaps: n dots of node, from first on, each two above the one ahead.
func gaps(node, first, n int) []api.Dot {
	l := []api.Dot{}
	for i := range n {
		l = append(l, d(node, first+2*i))
	}
	return l
}

// cellsAt: a cell of that key and column at each of the dots.
func cellsAt(l []api.Dot, key, col int) []api.Cell {
	cells := []api.Cell{}
	for i, x := range l {
		cells = append(cells, api.Cell{Dot: x, Key: key, Col: col, Value: i})
	}
	return cells
}

// run: n dots of node, from first on, one behind the other.
func run(node, first, n int) []api.Dot {
	l := []api.Dot{}
	for i := range n {
		l = append(l, d(node, first+i))
	}
	return l
}

// refusal: a table that Check refuses, and why.
type refusal struct {
	t    api.Table
	want api.Errno
}

// brokenContexts: tables whose context is refused, whatever their cells are.
func brokenContexts() []refusal {
	many := cellsAt(run(0, 1, api.MaxDots+1), 0, 0)
	return []refusal{
		{table([4]int{-1}), api.ErrArg},
		{table([4]int{0, 0, 0, api.MaxSeq + 1}, many...), api.ErrArg},
		{clouded([4]int{}, gaps(0, 3, api.MaxDots+1)), api.ErrLarge},
		{clouded([4]int{}, gaps(0, 3, api.MaxDots+1), cell(9, 9, 99, 9, 9)), api.ErrLarge},
		{clouded([4]int{}, []api.Dot{d(0, 1)}), api.ErrForm},
		{clouded([4]int{}, []api.Dot{d(0, 1)}, many...), api.ErrForm},
		{clouded([4]int{}, []api.Dot{d(4, 2)}, cell(4, 2, 0, 0, 0)), api.ErrForm},
		{clouded([4]int{5}, []api.Dot{d(1, 3), d(0, 9)}), api.ErrForm},
	}
}

// brokenCells: tables whose cells are refused.
func brokenCells() []refusal {
	top := [4]int{api.MaxSeq, api.MaxSeq, api.MaxSeq, api.MaxSeq}
	wrong := slices.Repeat([]api.Cell{cell(9, 9, 99, 9, 9)}, api.MaxDots+1)
	l := []refusal{
		{table(top, cellsAt(run(0, 1, api.MaxDots+1), 0, 0)...), api.ErrLarge},
		{table([4]int{}, wrong...), api.ErrLarge},
		{table([4]int{}, wrong[:api.MaxDots]...), api.ErrForm},
		{table([4]int{3}, cell(0, 4, 0, 0, 0)), api.ErrForm},
		{table([4]int{3}, cell(1, 1, 0, 0, 0)), api.ErrForm},
		{clouded([4]int{3}, []api.Dot{d(0, 5), d(0, 7)}, cell(0, 6, 0, 0, 0)), api.ErrForm},
		{table(top, cell(0, 3, 0, 0, 0), cell(0, 3, 0, 0, 0)), api.ErrForm},
		{table(top, cell(0, 3, 0, 0, 0), cell(0, 3, 1, 0, 0)), api.ErrForm},
		{table(top, cell(0, 3, 0, 0, 0), cell(0, 2, 1, 0, 0)), api.ErrForm},
		{table(top, cell(1, 1, 0, 0, 0), cell(0, 2, 1, 0, 0)), api.ErrForm},
		{table(top, cell(0, 1, 0, 0, 0), cell(0, 2, 0, 0, 0), cell(0, 1, 0, 0, 0)), api.ErrForm},
		{table(top, cell(0, 1, 0, 0, 0), cell(0, 3, 0, 0, 0), cell(0, 2, 0, 0, 0)), api.ErrForm},
		{table(top, cell(0, 1, 0, 0, 0), cell(0, 2, 50, 0, 0)), api.ErrForm},
	}
	for _, x := range []api.Dot{d(-1, 1), d(4, 1), d(0, 0), d(0, -1), d(0, api.MaxSeq+1), d(math.MinInt, 1), d(math.MaxInt, 1), d(0, math.MinInt), d(0, math.MaxInt)} {
		l = append(l, refusal{table(top, api.Cell{Dot: x}), api.ErrForm})
	}
	for _, x := range wrongPlaces() {
		l = append(l, refusal{table(top, cell(0, 1, x[0], x[1], x[2])), api.ErrForm})
	}
	return l
}

// wrongPlaces: a key, a column and a value, one of which is out of its bounds.
func wrongPlaces() [][3]int {
	return [][3]int{
		{-1, 0, 0}, {api.Keys, 0, 0}, {math.MinInt, 0, 0}, {math.MaxInt, 0, 0},
		{0, -1, 0}, {0, api.Cols, 0}, {0, math.MinInt, 0}, {0, math.MaxInt, 0},
		{0, 0, -1001}, {0, 0, 1001}, {0, 0, math.MinInt}, {0, 0, math.MaxInt},
	}
}

// broken: all of these.
func broken() []refusal { return slices.Concat(brokenContexts(), brokenCells()) }

// P5: Check takes what is right, to the edges.
func TestCheckTakes(t *testing.T) {
	top := [4]int{api.MaxSeq, api.MaxSeq, api.MaxSeq, api.MaxSeq}
	for _, x := range []api.Table{
		{},
		{Cells: []api.Cell{}},
		table([4]int{5}),
		table([4]int{1}, cell(0, 1, 0, 0, -1000)),
		table(top, cell(0, api.MaxSeq, 49, 2, 1000), cell(3, 1, 49, 2, 1000), cell(3, api.MaxSeq, 49, 2, 1000)),
		clouded([4]int{2}, []api.Dot{d(0, 4), d(3, 9)}, cell(0, 2, 1, 1, 1), cell(0, 4, 1, 1, 1), cell(3, 9, 1, 1, 1)),
		table(top, cell(0, 9, 1, 0, 0), cell(1, 3, 0, 0, 0)),
		table(top, cellsAt(run(2, 7, api.MaxDots), 3, 1)...),
		clouded([4]int{}, gaps(1, 2, api.MaxDots), cellsAt(gaps(1, 2, api.MaxDots), 3, 1)...),
	} {
		if e := Check(x); e != api.OK {
			t.Error(x, e)
		}
	}
}

// P5: Check refuses what isn't right, by the error that is told first.
func TestCheckRefuses(t *testing.T) {
	for _, x := range broken() {
		if e := Check(x.t); e != x.want {
			t.Error(x.t, e, x.want)
		}
	}
}

// P6, P7: each other call that checks tells Check's error, ahead of its own, and nothing beside it.
func TestErrorsOfBroken(t *testing.T) {
	fine := table([4]int{2}, cell(0, 1, 3, 1, 7))
	for _, x := range broken() {
		for _, call := range []func() (api.Table, api.Errno){
			func() (api.Table, api.Errno) { return Put(x.t, 0, 0, 0, 0) },
			func() (api.Table, api.Errno) { return Put(x.t, -1, 0, 0, 0) },
			func() (api.Table, api.Errno) { return Put(x.t, 0, 50, 0, 0) },
			func() (api.Table, api.Errno) { return Del(x.t, 0) },
			func() (api.Table, api.Errno) { return Del(x.t, 50) },
			func() (api.Table, api.Errno) { return Del(x.t, 7) },
			func() (api.Table, api.Errno) { return Merge(x.t, fine) },
			func() (api.Table, api.Errno) { return Merge(fine, x.t) },
			func() (api.Table, api.Errno) { return Since(x.t, fine.Context) },
		} {
			if got, e := call(); e != x.want || !isZero(got) {
				t.Error(x.t, got, e, x.want)
			}
		}
		for _, y := range broken() {
			if got, e := Merge(x.t, y.t); e != x.want || !isZero(got) {
				t.Error(x.t, y.t, got, e)
			}
			if got, e := Since(x.t, y.t.Context); e != x.want || !isZero(got) {
				t.Error(x.t, y.t.Context, got, e)
			}
		}
	}
	for _, x := range brokenContexts() {
		if got, e := Since(fine, x.t.Context); e != x.want || !isZero(got) {
			t.Error(x.t.Context, got, e)
		}
	}
}

// P6: Put tells its cell, and its dot and those of the values that it takes the place of alone.
func TestPut(t *testing.T) {
	top := [4]int{api.MaxSeq, api.MaxSeq, api.MaxSeq, api.MaxSeq - 1}
	some := clouded([4]int{3, 2}, []api.Dot{d(1, 5), d(2, 4)},
		cell(0, 1, 3, 1, 7), cell(0, 2, 3, 2, 7), cell(0, 3, 4, 1, 7), cell(1, 1, 3, 1, 7), cell(1, 5, 3, 1, -8), cell(2, 4, 9, 0, 1))
	for _, x := range []struct {
		t                     api.Table
		node, key, col, value int
		want                  api.Table
	}{
		{api.Table{}, 0, 0, 0, 0, table([4]int{1}, cell(0, 1, 0, 0, 0))},
		{api.Table{}, 3, 49, 2, 1000, table([4]int{0, 0, 0, 1}, cell(3, 1, 49, 2, 1000))},
		{api.Table{}, 3, 49, 2, -1000, table([4]int{0, 0, 0, 1}, cell(3, 1, 49, 2, -1000))},
		{table([4]int{9}), 0, 1, 1, 1, clouded([4]int{}, []api.Dot{d(0, 10)}, cell(0, 10, 1, 1, 1))},
		{table([4]int{9}), 2, 1, 1, 1, table([4]int{0, 0, 1}, cell(2, 1, 1, 1, 1))},
		{table(top), 3, 1, 1, 1, clouded([4]int{}, []api.Dot{d(3, api.MaxSeq)}, cell(3, api.MaxSeq, 1, 1, 1))},
		{some, 0, 3, 1, 7, clouded([4]int{1, 1}, []api.Dot{d(0, 4), d(1, 5)}, cell(0, 4, 3, 1, 7))},
		{some, 1, 3, 1, 2, clouded([4]int{1, 1}, []api.Dot{d(1, 5), d(1, 6)}, cell(1, 6, 3, 1, 2))},
		{some, 2, 3, 2, 2, clouded([4]int{}, []api.Dot{d(0, 2), d(2, 5)}, cell(2, 5, 3, 2, 2))},
		{some, 3, 3, 0, 2, table([4]int{0, 0, 0, 1}, cell(3, 1, 3, 0, 2))},
		{some, 3, 4, 2, 2, table([4]int{0, 0, 0, 1}, cell(3, 1, 4, 2, 2))},
	} {
		got, e := Put(x.t, x.node, x.key, x.col, x.value)
		if e != api.OK || !same(got, x.want) || Check(got) != api.OK {
			t.Error(x.t, x.node, x.key, x.col, x.value, got, e)
		}
	}
}

// P6: Put refuses arguments that are out of their bounds, ahead of a node that has no dot left.
func TestPutRefuses(t *testing.T) {
	top := table([4]int{api.MaxSeq}, cell(0, 1, 0, 0, 0))
	for _, x := range wrongPlaces() {
		for _, a := range []api.Table{{}, top} {
			if got, e := Put(a, 0, x[0], x[1], x[2]); e != api.ErrArg || !isZero(got) {
				t.Error(a, x, got, e)
			}
		}
	}
	for _, node := range []int{-1, 4, math.MinInt, math.MaxInt} {
		if got, e := Put(top, node, 0, 0, 0); e != api.ErrArg || !isZero(got) {
			t.Error(node, got, e)
		}
	}
	for _, a := range []api.Table{top, clouded([4]int{}, []api.Dot{d(0, api.MaxSeq)})} {
		if got, e := Put(a, 0, 0, 0, 0); e != api.ErrLarge || !isZero(got) {
			t.Error(a, got, e)
		}
	}
	if _, e := Put(top, 1, 0, 0, 0); e != api.OK {
		t.Error(e)
	}
}

// P6: Put in the place of as many values as there may be: what counts is the cloud.
func TestPutAtTheLimit(t *testing.T) {
	full := cellsAt(gaps(0, 2, api.MaxDots), 5, 2)
	whole := table([4]int{802}, full...)
	if got, e := Put(whole, 0, 5, 2, 0); e != api.ErrLarge || !isZero(got) {
		t.Error(got, e)
	}
	want := clouded([4]int{0, 1}, gaps(0, 2, api.MaxDots), cell(1, 1, 5, 2, 0))
	if got, e := Put(whole, 1, 5, 2, 0); e != api.OK || !same(got, want) {
		t.Error(got, e)
	}
	if got, e := Put(whole, 0, 5, 1, 0); e != api.OK || !same(got, clouded([4]int{}, []api.Dot{d(0, 803)}, cell(0, 803, 5, 1, 0))) {
		t.Error(got, e)
	}
	full[7].Key = 6
	want = clouded([4]int{}, append(slices.Delete(gaps(0, 2, api.MaxDots), 7, 8), d(0, 803)), cell(0, 803, 5, 2, 0))
	if got, e := Put(table([4]int{802}, full...), 0, 5, 2, 0); e != api.OK || !same(got, want) {
		t.Error(got, e)
	}
	if got, e := Put(table([4]int{400}, cellsAt(run(0, 1, 400), 5, 2)...), 0, 5, 2, 0); e != api.OK || !same(got, table([4]int{401}, cell(0, 401, 5, 2, 0))) {
		t.Error(got, e)
	}
}

// P6: Del tells the dots of the row's values alone.
func TestDel(t *testing.T) {
	some := clouded([4]int{3, 2}, []api.Dot{d(1, 5), d(2, 4)},
		cell(0, 1, 3, 1, 7), cell(0, 2, 3, 2, 7), cell(0, 3, 4, 1, 7), cell(1, 1, 3, 0, 7), cell(1, 5, 3, 1, -8), cell(2, 4, 49, 0, 1))
	full := gaps(0, 2, api.MaxDots)
	for _, x := range []struct {
		t    api.Table
		key  int
		want api.Table
		e    api.Errno
	}{
		{some, 3, clouded([4]int{2, 1}, []api.Dot{d(1, 5)}), api.OK},
		{some, 4, clouded([4]int{}, []api.Dot{d(0, 3)}), api.OK},
		{some, 49, clouded([4]int{}, []api.Dot{d(2, 4)}), api.OK},
		{table([4]int{1}, cell(0, 1, 0, 0, 0)), 0, table([4]int{1}), api.OK},
		{table([4]int{802}, cellsAt(full, 5, 2)...), 5, clouded([4]int{}, full), api.OK},
		{some, 0, api.Table{}, api.ErrNone},
		{some, 48, api.Table{}, api.ErrNone},
		{api.Table{}, 0, api.Table{}, api.ErrNone},
		{some, -1, api.Table{}, api.ErrArg},
		{some, 50, api.Table{}, api.ErrArg},
		{some, math.MinInt, api.Table{}, api.ErrArg},
		{some, math.MaxInt, api.Table{}, api.ErrArg},
	} {
		got, e := Del(x.t, x.key)
		if e != x.e || !same(got, x.want) || Check(got) != api.OK {
			t.Error(x.t, x.key, got, e)
		}
		if e != api.OK && !isZero(got) {
			t.Error(x.t, x.key, got, e)
		}
	}
}

// The cells that the tests of all tables are made of, some of them of one place.
func universe() []api.Cell {
	return []api.Cell{cell(0, 1, 3, 1, 5), cell(0, 2, 3, 1, 7), cell(0, 3, 4, 0, 7), cell(2, 1, 3, 1, 5), cell(2, 3, 9, 2, -4)}
}

// What a table knows of an edit.
const (
	unseen = iota
	gone
	there
	states
)

// tables: for each way to know of the universe's edits, the table that does.
func tables(t *testing.T) ([]api.Table, [][]int) {
	var all []api.Table
	var known [][]int
	count := 1
	for range universe() {
		count *= states
	}
	for n := range count {
		var x api.Table
		var dots []api.Dot
		var mine []int
		for _, c := range universe() {
			state := n % states
			n /= states
			mine = append(mine, state)
			if state != unseen {
				dots = append(dots, c.Dot)
			}
			if state == there {
				x.Cells = append(x.Cells, c)
			}
		}
		x.Context, _ = dot.Make(dots)
		if e := Check(x); e != api.OK {
			t.Fatal(x, e)
		}
		all, known = append(all, x), append(known, mine)
	}
	return all, known
}

// number: which of all tables is it that knows so?
func number(known []int) int {
	n := 0
	for i := len(known) - 1; i >= 0; i-- {
		n = n*states + known[i]
	}
	return n
}

// mergeStates: what is known of an edit by who has heard both.
func mergeStates(a, b int) int {
	switch {
	case a == unseen:
		return b
	case b == unseen:
		return a
	}
	return min(a, b)
}

// P7: Merge of each two tables, and Since: what was missing is as good as all.
func TestEachTwoTables(t *testing.T) {
	all, known := tables(t)
	for i, a := range all {
		for j, b := range all {
			both, left := make([]int, len(universe())), make([]int, len(universe()))
			for k := range both {
				both[k] = mergeStates(known[i][k], known[j][k])
				left[k] = known[i][k]
				if known[i][k] == there && known[j][k] != unseen {
					left[k] = unseen
				}
			}
			want := all[number(both)]
			if x, e := Merge(a, b); e != api.OK || !same(x, want) {
				t.Fatal("Merge", a, b, x, e)
			}
			news, e := Since(a, b.Context)
			if e != api.OK || !same(news, all[number(left)]) {
				t.Fatal("Since", a, b.Context, news, e)
			}
			if x, e := Merge(b, news); e != api.OK || !same(x, want) {
				t.Fatal("Merge of Since", b, news, x, e)
			}
		}
	}
}

// P7: a cell of one that is another one of the other is refused, ahead of what would be too large.
func TestMergeClash(t *testing.T) {
	a := table([4]int{3}, cell(0, 1, 3, 1, 7), cell(0, 2, 4, 1, 7))
	for _, x := range []api.Cell{cell(0, 2, 5, 1, 7), cell(0, 2, 4, 2, 7), cell(0, 2, 4, 1, 8)} {
		b := table([4]int{2, 1}, x, cell(1, 1, 0, 0, 0))
		for _, pair := range [][2]api.Table{{a, b}, {b, a}} {
			if got, e := Merge(pair[0], pair[1]); e != api.ErrForm || !isZero(got) {
				t.Error(pair, got, e)
			}
		}
	}
	// One that the other has seen, and has no more, is told by one alone: no clash.
	if got, e := Merge(a, table([4]int{2})); e != api.OK || !same(got, table([4]int{3})) {
		t.Error(got, e)
	}
	p := clouded([4]int{1}, gaps(1, 2, 400), cell(0, 1, 0, 0, 0))
	q := clouded([4]int{1}, gaps(2, 2, 400), cell(0, 1, 0, 0, 1))
	if got, e := Merge(p, q); e != api.ErrForm || !isZero(got) {
		t.Error(got, e)
	}
}

// P7: Merge refuses a cloud, and cells, that would be more than 400, and takes as many.
func TestMergeAtTheLimit(t *testing.T) {
	half := clouded([4]int{}, gaps(0, 2, 200))
	if got, e := Merge(half, clouded([4]int{}, gaps(1, 2, 200))); e != api.OK || len(got.Context.Cloud) != 400 {
		t.Error(got, e)
	}
	if got, e := Merge(half, clouded([4]int{}, gaps(1, 2, 201))); e != api.ErrLarge || !isZero(got) {
		t.Error(got, e)
	}
	a := table([4]int{200}, cellsAt(run(0, 1, 200), 0, 0)...)
	for _, pair := range [][2]api.Table{{a, table([4]int{0, 200}, cellsAt(run(1, 1, 200), 0, 0)...)}, {table([4]int{0, 200}, cellsAt(run(1, 1, 200), 0, 0)...), a}} {
		got, e := Merge(pair[0], pair[1])
		if e != api.OK || !same(got, table([4]int{200, 200}, slices.Concat(cellsAt(run(0, 1, 200), 0, 0), cellsAt(run(1, 1, 200), 0, 0))...)) {
			t.Error(got, e)
		}
	}
	if got, e := Merge(a, table([4]int{0, 201}, cellsAt(run(1, 1, 201), 0, 0)...)); e != api.ErrLarge || !isZero(got) {
		t.Error(got, e)
	}
	// Cells that one of both has no more don't count.
	if got, e := Merge(table([4]int{200, 1}, a.Cells...), table([4]int{0, 201}, cellsAt(run(1, 1, 201), 0, 0)...)); e != api.OK || len(got.Cells) != 400 {
		t.Error(got, e)
	}
	full := table([4]int{400}, cellsAt(run(0, 1, 400), 0, 0)...)
	if got, e := Merge(full, full); e != api.OK || !same(got, full) {
		t.Error(got, e)
	}
}

// P7: Since at the edges of the cloud that is left behind what is left out.
func TestSinceAtTheLimit(t *testing.T) {
	top := [4]int{api.MaxSeq, api.MaxSeq, api.MaxSeq, api.MaxSeq}
	for _, x := range []struct {
		t    api.Table
		c    api.Context
		want api.Table
		e    api.Errno
	}{
		{table([4]int{401}, cell(0, 1, 0, 0, 0)), api.Context{Clock: [4]int{1}}, clouded([4]int{}, run(0, 2, 400)), api.OK},
		{table([4]int{402}, cell(0, 1, 0, 0, 0)), api.Context{Clock: [4]int{1}}, api.Table{}, api.ErrLarge},
		{table([4]int{402}, cell(0, 1, 0, 0, 0)), api.Context{}, table([4]int{402}, cell(0, 1, 0, 0, 0)), api.OK},
		{table([4]int{402}, cell(0, 1, 0, 0, 0)), api.Context{Cloud: []api.Dot{d(0, 2)}}, table([4]int{402}, cell(0, 1, 0, 0, 0)), api.OK},
		{table([4]int{402}, cell(0, 402, 0, 0, 0)), api.Context{Cloud: []api.Dot{d(0, 402)}}, table([4]int{401}), api.OK},
		{table(top, cell(2, 1, 0, 0, 0)), api.Context{Clock: top}, api.Table{}, api.ErrLarge},
		{table(top, cell(2, api.MaxSeq, 0, 0, 0)), api.Context{Clock: top}, table([4]int{api.MaxSeq, api.MaxSeq, api.MaxSeq - 1, api.MaxSeq}), api.OK},
		{table([4]int{201, 0, 201}, cell(0, 1, 0, 0, 0), cell(2, 1, 0, 0, 0)), api.Context{Clock: top}, clouded([4]int{}, slices.Concat(run(0, 2, 200), run(2, 2, 200))), api.OK},
		{table([4]int{201, 0, 202}, cell(0, 1, 0, 0, 0), cell(2, 1, 0, 0, 0)), api.Context{Clock: top}, api.Table{}, api.ErrLarge},
		{table([4]int{400}, cellsAt(run(0, 1, 400), 0, 0)...), api.Context{Clock: top}, api.Table{}, api.OK},
		{table([4]int{800}, cellsAt(gaps(0, 1, 400), 0, 0)...), api.Context{Clock: top}, clouded([4]int{}, gaps(0, 2, 400)), api.OK},
		{table([4]int{801}, cellsAt(gaps(0, 1, 400), 0, 0)...), api.Context{Clock: top}, api.Table{}, api.ErrLarge},
		{clouded([4]int{2}, gaps(0, 4, 400), cell(0, 1, 0, 0, 0), cell(0, 4, 0, 0, 0)), api.Context{Clock: top}, clouded([4]int{}, append([]api.Dot{d(0, 2)}, gaps(0, 6, 399)...)), api.OK},
		{clouded([4]int{2}, gaps(0, 4, 400), cell(0, 1, 0, 0, 0), cell(0, 4, 0, 0, 0)), api.Context{Clock: [4]int{1}}, api.Table{}, api.ErrLarge},
	} {
		got, e := Since(x.t, x.c)
		if e != x.e || !same(got, x.want) || Check(got) != api.OK {
			t.Error(x.t, x.c, got, e)
		}
		if e != api.OK && !isZero(got) {
			t.Error(x.t, x.c, got, e)
		}
	}
}

// P7: Values and Keys, rising, each once, of any table.
func TestValuesAndKeys(t *testing.T) {
	some := table([4]int{9, 9}, cell(0, 1, 7, 1, 8), cell(0, 2, 3, 1, 5), cell(0, 3, 3, 1, -2), cell(0, 4, 3, 0, 1), cell(1, 1, 3, 1, 5), cell(1, 2, 0, 1, 6), cell(1, 3, 3, 2, 9))
	wild := table([4]int{-1}, cell(9, -9, 77, -4, math.MaxInt), cell(9, -9, math.MinInt, 1, 3), cell(0, 0, 77, -4, math.MinInt), cell(9, -9, 77, -4, math.MaxInt))
	long := table([4]int{}, cellsAt(run(0, 1, 3000), 1, 1)...)
	for _, x := range []struct {
		t        api.Table
		key, col int
		want     []int
	}{
		{some, 3, 1, []int{-2, 5}}, {some, 3, 0, []int{1}}, {some, 3, 2, []int{9}}, {some, 7, 1, []int{8}},
		{some, 7, 0, nil}, {some, 1, 1, nil}, {some, -1, 1, nil}, {some, 3, 3, nil}, {api.Table{}, 0, 0, nil},
		{wild, 77, -4, []int{math.MinInt, math.MaxInt}}, {wild, math.MinInt, 1, []int{3}}, {wild, math.MaxInt, 1, nil},
	} {
		if got := Values(x.t, x.key, x.col); !slices.Equal(got, x.want) {
			t.Error(x.t, x.key, x.col, got)
		}
	}
	if got := Values(long, 1, 1); len(got) != 3000 || got[2999] != 2999 {
		t.Error(len(got))
	}
	if got := Keys(some); !slices.Equal(got, []int{0, 3, 7}) {
		t.Error(got)
	}
	if got := Keys(wild); !slices.Equal(got, []int{math.MinInt, 77}) {
		t.Error(got)
	}
	if got := Keys(api.Table{Context: some.Context}); len(got) != 0 {
		t.Error(got)
	}
}

// after: the table behind an edit that tells what is to be merged.
func after(t *testing.T, a, edit api.Table, e api.Errno) api.Table {
	t.Helper()
	if e != api.OK {
		t.Fatal(a, e)
	}
	x, e := Merge(a, edit)
	if e != api.OK {
		t.Fatal(a, edit, e)
	}
	return x
}

// put: the table behind a Put.
func put(t *testing.T, a api.Table, node, key, col, value int) api.Table {
	t.Helper()
	edit, e := Put(a, node, key, col, value)
	return after(t, a, edit, e)
}

// del: the table behind a Del.
func del(t *testing.T, a api.Table, key int) api.Table {
	t.Helper()
	edit, e := Del(a, key)
	return after(t, a, edit, e)
}

// P6, P7: behind a Put its value is the only one, behind a Del the row is gone, and who writes a
// value while others delete the row keeps it.
func TestEditsApart(t *testing.T) {
	start := put(t, put(t, put(t, api.Table{}, 0, 3, 1, 7), 0, 3, 2, 6), 0, 8, 1, 9)
	left := put(t, put(t, start, 1, 3, 1, 10), 1, 3, 1, 11)
	right := del(t, start, 3)
	if got := Values(left, 3, 1); !slices.Equal(got, []int{11}) {
		t.Error(got)
	}
	if got := Keys(right); !slices.Equal(got, []int{8}) {
		t.Error(got)
	}
	one, e := Merge(left, right)
	two, f := Merge(right, left)
	if e != api.OK || f != api.OK || !same(one, two) {
		t.Fatal(one, two, e, f)
	}
	if !slices.Equal(Keys(one), []int{3, 8}) || !slices.Equal(Values(one, 3, 1), []int{11}) || len(Values(one, 3, 2)) != 0 {
		t.Error(one)
	}
	if x := put(t, one, 2, 3, 1, 12); !slices.Equal(Values(x, 3, 1), []int{12}) {
		t.Error(x)
	}
}

// P6, P7: who has heard the same has the same, in whatever order, however often.
func TestComeTogether(t *testing.T) {
	seed := 1
	pick := func(n int) int {
		seed = (seed*1103515245 + 12345) % (1 << 31)
		return seed >> 8 % n
	}
	for range 30 {
		var nodes [api.Nodes]api.Table
		for range 60 {
			i, j := pick(4), pick(4)
			switch pick(4) {
			case 0, 1:
				nodes[i] = put(t, nodes[i], i, pick(4), pick(3), pick(5))
			case 2:
				if keys := Keys(nodes[i]); len(keys) > 0 {
					nodes[i] = del(t, nodes[i], keys[pick(len(keys))])
				}
			case 3:
				news, e := Since(nodes[i], nodes[j].Context)
				nodes[j] = after(t, nodes[j], news, e)
			}
		}
		var want api.Table
		for _, x := range nodes {
			want = after(t, want, x, api.OK)
		}
		for start := range nodes {
			got := nodes[start]
			for range 9 {
				got = after(t, got, nodes[pick(4)], api.OK)
			}
			for i := range nodes {
				got = after(t, got, nodes[(start+5-i)%4], api.OK)
			}
			if !same(got, want) {
				t.Fatal(got, want)
			}
		}
	}
}
