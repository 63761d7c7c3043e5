package rank

import (
	"slices"
	"testing"

	"viewmere/api"
)

// roomy: the same items, with room behind the list and behind each row that is written full.
func roomy(l items) items {
	var copied items
	for _, x := range l {
		copied = append(copied, api.Item{Row: roomyRow(x.Row), N: x.N})
	}
	return append(copied, item(-7, -7), item(-7, -7))[:len(l)]
}

// roomyRow: the same numbers, with room behind them that is written full.
func roomyRow(row []int) []int {
	return append(slices.Clone(row), -77, -77, -77)[:len(row)]
}

// whole: a copy of a list and of its rows, the room behind them included.
func whole(l items) items {
	copied := append(items(nil), l[:cap(l)]...)
	for i, x := range copied {
		copied[i].Row = append([]int(nil), x.Row[:cap(x.Row)]...)
	}
	return copied
}

// same: are two lists of items the same?
func same(a, b items) bool {
	return slices.EqualFunc(a, b, func(x, y api.Item) bool { return x.N == y.N && slices.Equal(x.Row, y.Row) })
}

// copyRows: a copy of a list of rows.
func copyRows(rows [][]int) [][]int {
	var copied [][]int
	for _, row := range rows {
		copied = append(copied, append([]int(nil), row...))
	}
	return copied
}

// scrawlRow: writes over a row and the room behind it.
func scrawlRow(row []int) {
	row = row[:cap(row)]
	for i := range row {
		row[i] = -99
	}
}

// sets to be put in an order, by all of these columns.
func sets() []struct {
	l  items
	by []int
} {
	return []struct {
		l  items
		by []int
	}{
		{nil, []int{1, -8}},
		{items{item(3)}, nil},
		{items{item(2, 1), item(1, 2), item(5, 3)}, []int{-1}},
		{items{item(2, 1, 5), item(1, 2, 3), item(1, 3, 5)}, []int{2, -1}},
		{items{item(3, 1, 2, 3), item(2, 4, 2, 1), item(1, 5, 0, 0)}, []int{-2, 3, 1}},
		{items{item(1, 1, 2), item(-1, 3, 4)}, []int{-2, 1}},
		{items{item(1, 2, 2), item(1, 1, 4)}, []int{-2, 1}},
		{items{item(2, 2, 2), item(1, 3, 4)}, []int{-2, 3}},
	}
}

// P2: Rows changes nothing that it is given, the room behind lists included, and tells new memory.
func TestHandedIn(t *testing.T) {
	for i, x := range sets() {
		l, by := roomy(x.l), roomyRow(x.by)
		before, columns := whole(l), slices.Clone(by[:cap(by)])
		rows, e := Rows(l, by, 9)
		if !same(whole(l), before) || !slices.Equal(by[:cap(by)], columns) {
			t.Error(i, "changes what is handed in", l, by)
		}
		told := copyRows(rows)
		for _, y := range l {
			scrawlRow(y.Row)
		}
		scrawlRow(by)
		if !sameRows(rows, told) {
			t.Error(i, "tells what was handed in", rows, told)
		}
		again, f := Rows(x.l, x.by, 9)
		if e != f || !sameRows(again, told) {
			t.Error(i, "keeps what was handed in", again, f)
		}
	}
}

// P2: the rows of an answer share nothing with what was handed in, with one another (the same row
// twice included), or with another answer, the room behind them included.
func TestRowsApart(t *testing.T) {
	for i, x := range sets() {
		l := roomy(x.l)
		before := whole(l)
		rows, _ := Rows(l, x.by, 9)
		other, _ := Rows(l, x.by, 9)
		told := copyRows(rows)
		for j, row := range rows {
			scrawlRow(row)
			copy(row, told[j])
			if !sameRows(rows, told) {
				t.Fatal(i, "row", j, "shares with another one", rows)
			}
		}
		for _, row := range rows {
			scrawlRow(row)
		}
		if !same(whole(l), before) || !sameRows(other, told) {
			t.Error(i, "shares with what was handed in, or told", l, other)
		}
	}
}

// P2: Print changes nothing that it is given, and keeps nothing of it.
func TestPrintLeaves(t *testing.T) {
	rows := [][]int{roomyRow([]int{1, -5}), roomyRow(nil), roomyRow([]int{3}), {-7}}[:3]
	s := Print(rows)
	for i, row := range [][]int{{1, -5, -77, -77, -77}, {-77, -77, -77}, {3, -77, -77, -77}, {-7}} {
		got := rows[:4][i]
		if all := got[:cap(got)]; !slices.Equal(all[:len(row)], row) {
			t.Error(i, all)
		}
		scrawlRow(got)
	}
	if s != "1 -5\n\n3\n" {
		t.Errorf("%q", s)
	}
}
