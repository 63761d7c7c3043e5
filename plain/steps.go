package plain

import (
	"viewmere/api"
	"viewmere/zset"
)

// group: the items of a set that have the same number at a column, in their order.
type group struct {
	number int
	items  []api.Item
}

// itemsOfOne: what a step that takes one set makes of it, a row maybe twice, and in any order.
func itemsOfOne(s api.Step, a []api.Item) []api.Item {
	switch s.Kind {
	case api.QWhere:
		return where(a, s.Col, s.Op, s.Value)
	case api.QPick:
		return pick(a, s.List)
	case api.QDistinct:
		return distinct(a)
	case api.QCount:
		return count(a, s.Col)
	}
	return sum(a, s.Col, s.Value)
}

// where: the items whose number at a column is, by op, to a value.
func where(a []api.Item, col, op, value int) []api.Item {
	var l []api.Item
	for _, x := range a {
		if isTo(x.Row[col], op, value) {
			l = append(l, x)
		}
	}
	return l
}

// isTo: is n, by op, to a value?
func isTo(n, op, value int) bool {
	switch op {
	case api.OLess:
		return n < value
	case api.OEqual:
		return n == value
	}
	return n > value
}

// pick: of each row its numbers at some columns.
func pick(a []api.Item, cols []int) []api.Item {
	var l []api.Item
	for _, x := range a {
		var row []int
		for _, col := range cols {
			row = append(row, x.Row[col])
		}
		l = append(l, api.Item{Row: row, N: x.N})
	}
	return l
}

// distinct: each row that is there more than 0 times, once.
func distinct(a []api.Item) []api.Item {
	var l []api.Item
	for _, x := range a {
		if x.N > 0 {
			l = append(l, api.Item{Row: x.Row, N: 1})
		}
	}
	return l
}

// count: each number at a column, and how many times its rows are there, unless that is 0.
func count(a []api.Item, col int) []api.Item {
	var l []api.Item
	groups, _ := groupsBy(a, col)
	for _, g := range groups {
		if n := times(g.items); n != 0 {
			l = append(l, api.Item{Row: []int{g.number, n}, N: 1})
		}
	}
	return l
}

// sum: each number at a column, and the sum of another one, unless its rows are there 0 times.
func sum(a []api.Item, col, other int) []api.Item {
	var l []api.Item
	groups, _ := groupsBy(a, col)
	for _, g := range groups {
		if times(g.items) != 0 {
			l = append(l, api.Item{Row: []int{g.number, sumAt(g.items, other)}, N: 1})
		}
	}
	return l
}

// times: how many times all items are there.
func times(l []api.Item) int {
	n := 0
	for _, x := range l {
		n += x.N
	}
	return n
}

// sumAt: the sum of the numbers at a column, each as many times as its row. (400 rows of the greatest
// number and weight are below 2^59.)
func sumAt(l []api.Item, col int) int {
	n := 0
	for _, x := range l {
		n += x.Row[col] * x.N
	}
	return n
}

// minus: the set of a, and of b with its numbers of times turned.
func minus(a, b []api.Item) ([]api.Item, api.Errno) {
	turned, e := zset.Neg(b)
	if e != api.OK {
		return nil, e
	}
	return zset.Add(a, turned)
}

// join: the set of the rows of a with those of b behind them whose number at other is a's at col.
func join(a, b []api.Item, col, other int) ([]api.Item, api.Errno) {
	groups, places := groupsBy(b, other)
	var l []api.Item
	for _, x := range a {
		at, ok := places[x.Row[col]]
		if !ok {
			continue
		}
		for _, y := range groups[at].items {
			n := x.N * y.N
			if n < -api.MaxWeight || n > api.MaxWeight {
				return nil, api.ErrForm
			}
			// Behind a row too many no more are kept, but a weight that is too great is still told first.
			if len(l) <= api.MaxItems {
				l = append(l, api.Item{Row: rowOfBoth(x.Row, y.Row), N: n})
			}
		}
	}
	// The rows of a are all as wide, so that no two pairs have the same row, and Norm's ErrLarge is right.
	return zset.Norm(l)
}

// rowOfBoth: the numbers of a, and behind them those of b.
func rowOfBoth(a, b []int) []int {
	return append(append([]int(nil), a...), b...)
}

// groupsBy: the items by their number at a column, in the order in which these come up, and where the
// group of each number stands.
func groupsBy(l []api.Item, col int) ([]group, map[int]int) {
	var groups []group
	places := map[int]int{}
	for _, x := range l {
		number := x.Row[col]
		at, ok := places[number]
		if !ok {
			at = len(groups)
			places[number] = at
			groups = append(groups, group{number: number})
		}
		groups[at].items = append(groups[at].items, x)
	}
	return groups, places
}
