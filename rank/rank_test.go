package rank

import (
	"math"
	"slices"
	"strings"
	"testing"

	"viewmere/api"
)

const (
	m = api.MaxNumber
	w = api.MaxWeight
)

type items = []api.Item

// item: a row n times.
func item(n int, row ...int) api.Item { return api.Item{Row: row, N: n} }

// sameRows: are two lists of rows the same, an empty one being as good as none?
func sameRows(a, b [][]int) bool {
	return slices.EqualFunc(a, b, func(x, y []int) bool { return slices.Equal(x, y) })
}

// singles: n rows of one number, rising from 0 on, each as many times.
func singles(n, times int) items {
	var l items
	for i := range n {
		l = append(l, item(times, i))
	}
	return l
}

// want: the rows that are told.
func want(t *testing.T, l items, by []int, most int, rows ...[]int) {
	t.Helper()
	got, e := Rows(l, by, most)
	if e != api.OK || !sameRows(got, rows) {
		t.Errorf("%v by %v, %d: %v %v, not %v", l, by, most, got, e, rows)
	}
}

// refuse: the error that is told, and no rows.
func refuse(t *testing.T, l items, by []int, most int, e api.Errno) {
	t.Helper()
	if rows, got := Rows(l, by, most); got != e || rows != nil {
		t.Errorf("%v by %v, %d: %v %v, not %v", l, by, most, rows, got, e)
	}
}

// P14: by columns, the lesser number first, or the greater one.
func TestOrder(t *testing.T) {
	l := items{item(1, 1, 5, 0), item(1, 2, 3, -4), item(1, 3, 5, -4), item(1, 4, 3, 9)}
	one, two, three, four := l[0].Row, l[1].Row, l[2].Row, l[3].Row
	for _, x := range []struct {
		by   []int
		rows [][]int
	}{
		{nil, [][]int{one, two, three, four}},
		{[]int{}, [][]int{one, two, three, four}},
		{[]int{1}, [][]int{one, two, three, four}},
		{[]int{-1}, [][]int{four, three, two, one}},
		{[]int{2}, [][]int{two, four, one, three}},
		{[]int{-2}, [][]int{one, three, two, four}},
		{[]int{3}, [][]int{two, three, one, four}},
		{[]int{-3}, [][]int{four, one, two, three}},
		{[]int{2, -1}, [][]int{four, two, three, one}},
		{[]int{-2, -1}, [][]int{three, one, four, two}},
		{[]int{2, 3}, [][]int{two, four, three, one}},
		{[]int{2, -3}, [][]int{four, two, one, three}},
		{[]int{3, 2}, [][]int{two, three, one, four}},
		{[]int{3, -2}, [][]int{three, two, one, four}},
		{[]int{-3, -2, -1}, [][]int{four, one, three, two}},
	} {
		want(t, l, x.by, 9, x.rows...)
	}
}

// P14: a column may be told again, and the first time alone counts.
func TestColumnTwice(t *testing.T) {
	l := items{item(1, 1, 5), item(1, 2, 3), item(1, 3, 5)}
	one, two, three := l[0].Row, l[1].Row, l[2].Row
	want(t, l, []int{2, -2}, 9, two, one, three)
	want(t, l, []int{-2, 2}, 9, one, three, two)
	want(t, l, []int{2, 2, -2, -1, 1}, 9, two, three, one)
	want(t, l, []int{-1, -1, -1, -1, -1, -1, -1, -1}, 9, three, two, one)
}

// P14: numbers as great as they may be, of both signs, and the last of eight columns.
func TestGreatNumbers(t *testing.T) {
	least, nought, most := []int{1, 0, 0, 0, 0, 0, 0, -m}, []int{-m, 0, 0, 0, 0, 0, 0, 0}, []int{0, 0, 0, 0, 0, 0, 0, m}
	l := items{item(1, nought...), item(1, most...), item(1, least...)}
	want(t, l, []int{8}, 9, least, nought, most)
	want(t, l, []int{-8}, 9, most, nought, least)
	want(t, l, []int{2, 3, 4, 5, 6, 7, -8, 1}, 9, most, nought, least)
	want(t, l, []int{-1}, 9, least, most, nought)
}

// P14: each row as many times as its N, and the first most of all of these.
func TestTimes(t *testing.T) {
	l := items{item(2, 1, 5), item(1, 2, 3), item(3, 3, 4)}
	one, two, three := l[0].Row, l[1].Row, l[2].Row
	all := [][]int{two, three, three, three, one, one}
	for most := range 9 {
		want(t, l, []int{2}, most, all[:min(most, len(all))]...)
	}
	want(t, l, []int{2}, api.MaxItems, all...)
	want(t, l, nil, 3, one, one, two)
	want(t, items{item(api.MaxItems, 7)}, []int{-1}, 2, []int{7}, []int{7})
	rows, e := Rows(items{item(api.MaxItems, 7)}, nil, api.MaxItems)
	if e != api.OK || len(rows) != api.MaxItems || !slices.Equal(rows[api.MaxItems-1], []int{7}) {
		t.Error(len(rows), e)
	}
}

// P14: as many items as there may be, each as many times.
func TestManyRows(t *testing.T) {
	rows, e := Rows(singles(api.MaxItems, 1), []int{-1}, api.MaxItems)
	if e != api.OK || len(rows) != api.MaxItems {
		t.Fatal(len(rows), e)
	}
	for i, row := range rows {
		if !slices.Equal(row, []int{api.MaxItems - 1 - i}) {
			t.Fatal(i, row)
		}
	}
	rows, e = Rows(singles(api.MaxItems, api.MaxItems), []int{-1}, api.MaxItems)
	if e != api.OK || len(rows) != api.MaxItems || rows[0][0] != api.MaxItems-1 || rows[api.MaxItems-1][0] != api.MaxItems-1 {
		t.Error(len(rows), e)
	}
	rows, e = Rows(singles(api.MaxItems, 3), nil, api.MaxItems)
	if e != api.OK || len(rows) != api.MaxItems || rows[api.MaxItems-1][0] != (api.MaxItems-1)/3 {
		t.Error(len(rows), e)
	}
}

// P14: a set without a row has none in any order of eight columns; a row without a number has no column.
func TestNoRowNoNumber(t *testing.T) {
	for _, none := range []items{nil, {}} {
		want(t, none, nil, 9)
		want(t, none, []int{8, -8, 1, -1, 2, 3, 4, 5}, 9)
		refuse(t, none, []int{9}, 9, api.ErrArg)
		refuse(t, none, []int{-9}, 9, api.ErrArg)
		refuse(t, none, []int{0}, 9, api.ErrArg)
		refuse(t, none, nil, -1, api.ErrArg)
	}
	want(t, items{item(3)}, nil, 2, []int{}, []int{})
	want(t, items{item(3)}, nil, 0)
	refuse(t, items{item(3)}, []int{1}, 2, api.ErrArg)
	refuse(t, items{item(3)}, []int{-1}, 2, api.ErrArg)
}

// P14: zset.Check's errors.
func TestNoSet(t *testing.T) {
	refuse(t, singles(api.MaxItems+1, 1), nil, 1, api.ErrLarge)
	for _, l := range []items{
		{item(1, 2), item(1, 1)},
		{item(1, 1), item(1, 1)},
		{item(0, 1)},
		{item(w+1, 1)},
		{item(-w-1, 1)},
		{item(1, m+1)},
		{item(1, -m-1)},
		{item(1, make([]int, api.MaxWidth+1)...)},
	} {
		refuse(t, l, nil, 1, api.ErrForm)
	}
}

// P14: sets whose rows can't be told one by one, or have no columns in common.
func TestNoRows(t *testing.T) {
	for _, l := range []items{
		{item(-1, 1)},
		{item(1, 1), item(-1, 2)},
		{item(-w, 1)},
		{item(api.MaxItems+1, 1)},
		{item(w, 1)},
		{item(1, 1), item(1, 2), item(api.MaxItems+1, 3)},
		{item(1), item(1, 1)},
		{item(1, 1), item(1, 1, 2)},
		{item(1, 1, 2), item(1, 2)},
		{item(1, 1, 2), item(1, 2, 2), item(1, 3)},
	} {
		refuse(t, l, nil, 1, api.ErrForm)
		refuse(t, l, nil, 0, api.ErrForm)
	}
}

// P14: columns that there aren't, too many of these, and a most that is out of its bounds.
func TestWrongArguments(t *testing.T) {
	l := items{item(1, 1, 5), item(2, 2, 3)}
	for _, n := range []int{0, 3, -3, 8, -8, 9, -9, 1 << 32, math.MaxInt, -math.MaxInt, math.MinInt, math.MinInt + 1, math.MinInt + 2} {
		refuse(t, l, []int{n}, 1, api.ErrArg)
		refuse(t, l, []int{1, -2, n}, 1, api.ErrArg)
		refuse(t, l, []int{n, 1}, 0, api.ErrArg)
	}
	refuse(t, l, []int{1, 2, 1, 2, 1, 2, 1, 2, 1}, 1, api.ErrArg)
	refuse(t, nil, []int{1, 2, 3, 4, 5, 6, 7, 8, 1}, 1, api.ErrArg)
	refuse(t, l, make([]int, 100000), 1, api.ErrArg)
	for _, most := range []int{-1, api.MaxItems + 1, math.MinInt, math.MaxInt} {
		refuse(t, l, nil, most, api.ErrArg)
		refuse(t, l, []int{1, -2}, most, api.ErrArg)
	}
}

// P14: where several errors apply, the one that is told first.
func TestErrorsInOrder(t *testing.T) {
	large := singles(api.MaxItems+1, -1)
	large[1].Row = []int{1, 2, 3}
	refuse(t, large, []int{0}, -1, api.ErrLarge)
	refuse(t, items{item(1, 2), item(1, 1)}, []int{0}, 1, api.ErrForm)
	refuse(t, items{item(-1, 1)}, []int{2}, 1, api.ErrForm)
	refuse(t, items{item(api.MaxItems+1, 1)}, nil, -1, api.ErrForm)
	refuse(t, items{item(1, 1), item(1, 1, 2)}, []int{2}, api.MaxItems+1, api.ErrForm)
	refuse(t, items{item(1, 1), item(1, 1, 2)}, make([]int, 9), 1, api.ErrForm)
}

// P14: rows as a text, any rows.
func TestPrint(t *testing.T) {
	for _, x := range []struct {
		rows [][]int
		want string
	}{
		{nil, ""},
		{[][]int{}, ""},
		{[][]int{{}}, "\n"},
		{[][]int{nil, {}}, "\n\n"},
		{[][]int{{0}}, "0\n"},
		{[][]int{{1, 5}, {-2, 3}}, "1 5\n-2 3\n"},
		{[][]int{{7}, {}, {1, 2, 3}}, "7\n\n1 2 3\n"},
		{[][]int{{m, -m}}, "1073741824 -1073741824\n"},
		{[][]int{{math.MinInt, math.MaxInt}}, "-9223372036854775808 9223372036854775807\n"},
		{[][]int{{1, 2, 3, 4, 5, 6, 7, 8, 9, 10, 11}}, "1 2 3 4 5 6 7 8 9 10 11\n"},
		{[][]int{make([]int, 1000)}, strings.Repeat("0 ", 999) + "0\n"},
	} {
		if s := Print(x.rows); s != x.want {
			t.Errorf("%v: %q, not %q", x.rows, s, x.want)
		}
	}
}
