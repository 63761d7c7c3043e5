package rank

import (
	"math"
	"testing"

	"viewmere/api"
	"viewmere/zset"
)

// dice: numbers that look thrown, the same ones at each run.
type dice uint64

// throw: one of n numbers, from 0 on.
func (d *dice) throw(n int) int {
	*d = *d*6364136223846793005 + 1442695040888963407
	return int(uint64(*d)>>33) % n
}

// oneOf these numbers.
func (d *dice) oneOf(l ...int) int { return l[d.throw(len(l))] }

// set of rows of one width; of few numbers, so that many are the same. A row may have come up too often.
func (d *dice) set() items {
	var l items
	width := d.throw(api.MaxWidth + 1)
	for range d.throw(30) {
		x := item(d.oneOf(1, 1, 2, 3, 30))
		for range width {
			x.Row = append(x.Row, d.oneOf(-m, -1, 0, 1, m))
		}
		l = append(l, x)
	}
	set, _ := zset.Norm(l)
	return set
}

// spoil: one thing of a set that Rows may not take, or may.
func (d *dice) spoil(l items) {
	if len(l) == 0 {
		return
	}
	x := &l[d.throw(len(l))]
	switch d.throw(3) {
	case 0:
		x.N = d.oneOf(math.MinInt, -w, -1, 0, 1, 399, 400, 401, w, w+1, math.MaxInt)
	case 1:
		x.Row = make([]int, d.throw(10))
	default:
		for i := range x.Row {
			x.Row[i] = d.oneOf(math.MinInt, -m-1, -m, 0, m, m+1, math.MaxInt)
		}
	}
}

// columns: some that there are, at times one that there isn't, or too many.
func (d *dice) columns(width int) []int {
	var by []int
	for range d.oneOf(0, 1, 2, 3, 8, 9) {
		n := d.oneOf(1, -1) * (1 + d.throw(max(width, 1)))
		if d.throw(40) == 0 {
			n = d.oneOf(math.MinInt, -width-1, 0, width+1, math.MaxInt)
		}
		by = append(by, n)
	}
	return by
}

// errorOf what Rows is given, as P14 tells it.
func errorOf(l items, by []int, most int) api.Errno {
	if e := zset.Check(l); e != api.OK {
		return e
	}
	width := 8
	for i, x := range l {
		if i == 0 {
			width = len(x.Row)
		}
		if x.N < 0 || x.N > 400 || len(x.Row) != width {
			return api.ErrForm
		}
	}
	for _, n := range by {
		above, below := n >= 1 && n <= width, n <= -1 && n >= -width
		if !above && !below {
			return api.ErrArg
		}
	}
	if len(by) > 8 || most < 0 || most > 400 {
		return api.ErrArg
	}
	return api.OK
}

// isAhead: does a stand ahead of b, as P14 tells it?
func isAhead(a, b, by []int) bool {
	for _, n := range by {
		if n > 0 && a[n-1] != b[n-1] {
			return a[n-1] < b[n-1]
		}
		if n < 0 && a[-n-1] != b[-n-1] {
			return a[-n-1] > b[-n-1]
		}
	}
	return zset.Order(a, b) < 0
}

// countAhead: how many rows of a set, each as many times as its N, stand ahead of a row.
func countAhead(l items, row, by []int) int {
	n := 0
	for _, x := range l {
		if isAhead(x.Row, row, by) {
			n += x.N
		}
	}
	return n
}

// ranked: the rows that P14 asks for, each put where the number of those ahead of it says.
func ranked(l items, by []int, most int) [][]int {
	all := 0
	for _, x := range l {
		all += x.N
	}
	rows := make([][]int, all)
	for _, x := range l {
		first := countAhead(l, x.Row, by)
		for i := range x.N {
			rows[first+i] = x.Row
		}
	}
	return rows[:min(most, all)]
}

// P14: thrown sets, columns and numbers of rows, right ones and wrong ones, held against what P14 says.
func TestThrown(t *testing.T) {
	d := dice(14)
	told := map[api.Errno]int{}
	for i := range 20000 {
		l := d.set()
		by := d.columns(widthOf(l))
		if d.throw(5) == 0 {
			d.spoil(l)
		}
		most := d.oneOf(0, 1, 2, 5, 20, 100, 399, 400, d.oneOf(-1, 401, math.MinInt, math.MaxInt))
		rows, e := Rows(l, by, most)
		told[e]++
		if f := errorOf(l, by, most); e != f {
			t.Fatal(i, l, by, most, e, f)
		}
		if e != api.OK {
			if rows != nil {
				t.Fatal(i, l, by, most, rows, e)
			}
			continue
		}
		if want := ranked(l, by, most); !sameRows(rows, want) {
			t.Fatal(i, l, by, most, rows, want)
		}
	}
	for _, e := range []api.Errno{api.OK, api.ErrArg, api.ErrForm} {
		if told[e] < 500 {
			t.Error("too few of", e, told)
		}
	}
}
