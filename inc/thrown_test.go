package inc

import (
	"math"
	"testing"

	"viewmere/api"
	"viewmere/plain"
	"viewmere/query"
	"viewmere/zset"
)

// texts of queries: each kind of step, behind a table and behind others, and at the end or not.
func texts() []string {
	const both = "table 0\ntable 1\n"
	return []string{
		"table 0\n",
		"table 1\n",
		both + "where 0 1 < 0\nwhere 1 2 = 1\nwhere 0 0 > -1\nunion 2 3\nunion 4 5\n",
		both + "pick 0 1\npick 1 3,3\npick 0 2,1\nunion 3 4\n",
		both + "join 0 1 1 0\n",
		both + "join 1 0 2 2\ncount 2 3\njoin 3 0 0 1\n",
		both + "join 0 0 0 0\ntable 1\n",
		both + "union 0 1\nminus 2 1\nunion 3 3\n",
		both + "minus 0 1\ndistinct 2\nminus 3 0\n",
		both + "distinct 0\ndistinct 1\nunion 2 3\ndistinct 4\n",
		both + "count 0 1\ncount 1 1\nminus 2 3\ncount 4 0\n",
		both + "sum 0 1 2\nsum 1 3 3\nunion 2 3\n",
		both + "union 0 1\nsum 2 0 3\ncount 3 1\nsum 4 1 0\n",
		both + "pick 0 0\npick 1 1\njoin 2 3 0 0\ndistinct 4\ncount 5 1\n",
	}
}

// dice: numbers that look thrown, the same ones at each run.
type dice uint64

// throw: one of n numbers, from 0 on.
func (d *dice) throw(n int) int {
	*d = *d*6364136223846793005 + 1442695040888963407
	return int(uint64(*d)>>33) % n
}

// oneOf these numbers.
func (d *dice) oneOf(l ...int) int { return l[d.throw(len(l))] }

// set of up to most rows of four numbers; of few numbers and weights, or of great ones, too.
func (d *dice) set(most int, great bool) []api.Item {
	var l []api.Item
	for range d.throw(most + 1) {
		x := item(d.oneOf(-2, -1, -1, 1, 1, 2), d.throw(4)-1, d.throw(4)-1, d.throw(3)-1, d.throw(3)-1)
		if great && d.throw(4) == 0 {
			x.N, x.Row[d.throw(4)] = d.oneOf(w, -w, w-1, 1<<10, -1<<10), d.oneOf(m, -m, 1-m, 5)
		}
		l = append(l, x)
	}
	set, _ := zset.Norm(l) // none, if a row has come up too often
	return set
}

// wrong: a list that Feed may not take, or a set after all.
func (d *dice) wrong() []api.Item {
	wild := []int{math.MinInt, -m - 1, -w - 1, -1, 0, 1, 3, w + 1, m, m + 1, math.MaxInt}
	l := []api.Item{item(1, 0, 0, 0, 0), item(1, 1, 0, 0, 0), item(1, 2, 0, 0, 0)}
	x := &l[d.throw(3)]
	switch d.throw(5) {
	case 0:
		x.N = d.oneOf(wild...)
	case 1:
		x.Row[d.throw(4)] = d.oneOf(wild...)
	case 2:
		x.Row = x.Row[:d.throw(4)]
	case 3:
		x.Row = make([]int, d.oneOf(5, 8, 9, 1000))
	default:
		l = rows(d.throw(3), d.oneOf(399, 400, 401), d.oneOf(1, w))
	}
	return l
}

// counts: how many times each row is there, by its width and its numbers. Other than a set it has no bounds.
type counts map[[1 + api.MaxWidth]int]int

// add: all items, so many times.
func (c counts) add(l []api.Item, times int) {
	for _, x := range l {
		k := [1 + api.MaxWidth]int{len(x.Row)}
		copy(k[1:], x.Row)
		c[k] += times * x.N
		if c[k] == 0 {
			delete(c, k)
		}
	}
}

// isRising: are an answer's rows in order, none twice, and none there 0 times?
func isRising(l []api.Item) bool {
	for i, x := range l {
		if x.N == 0 || i > 0 && zset.Order(l[i-1].Row, x.Row) >= 0 {
			return false
		}
	}
	return true
}

// haveNotFour: has a row not 4 numbers?
func haveNotFour(lists ...[]api.Item) bool {
	for _, l := range lists {
		for _, x := range l {
			if len(x.Row) != 4 {
				return true
			}
		}
	}
	return false
}

// kept: what a view is held against: its query, and the sets of both tables.
type kept struct {
	q    []api.Step
	a, b []api.Item
}

// fed: what P13 says of a feed: what is kept behind it, and the error.
func (k kept) fed(a, b []api.Item) (kept, api.Errno) {
	if e := zset.Check(a); e != api.OK {
		return k, e
	}
	if e := zset.Check(b); e != api.OK {
		return k, e
	}
	if haveNotFour(a, b) {
		return k, api.ErrForm
	}
	first, e := zset.Add(k.a, a)
	if e != api.OK {
		return k, e
	}
	second, e := zset.Add(k.b, b)
	if e != api.OK {
		return k, e
	}
	if _, e := plain.All(k.q, first, second); e != api.OK {
		return k, e
	}
	return kept{k.q, first, second}, api.OK
}

// tells: what the query tells of what is kept.
func (k kept) tells() []api.Item {
	l, _ := plain.Eval(k.q, k.a, k.b)
	return l
}

// feedThrown: a view is fed many times, and held against what P13 says at each; how often each error was.
func feedThrown(t *testing.T, d *dice, s string, feeds, most int, great bool) (seen [6]int) {
	q, _, _ := query.Parse(s)
	v, _ := New(q)
	k := kept{q: q}
	for i := range feeds {
		a, b := d.set(most, great), d.set(most, great)
		if great && d.throw(8) == 0 {
			a = d.wrong()
		}
		if great && d.throw(8) == 0 {
			b = d.wrong()
		}
		now, e := k.fed(a, b)
		l, f := v.Feed(a, b)
		if f != e || e != api.OK && l != nil || !isRising(l) {
			t.Fatalf("%q, feed %d, %v, %v: %v %v, not %v", s, i, a, b, l, f, e)
		}
		earlier, later := k.tells(), now.tells()
		turned := counts{}
		turned.add(earlier, 1)
		turned.add(l, 1)
		turned.add(later, -1)
		if len(turned) != 0 {
			t.Fatalf("%q, feed %d, %v, %v: %v isn't what was to be added to %v", s, i, a, b, l, earlier)
		}
		if !same(v.All(), later) {
			t.Fatalf("%q, feed %d, %v, %v: All %v, not %v", s, i, a, b, v.All(), later)
		}
		k = now
		seen[e]++
	}
	return seen
}

// P13, P1: many feeds, right and wrong ones, of queries of all kinds.
func TestThrown(t *testing.T) {
	d := dice(1)
	var seen [6]int
	for _, s := range texts() {
		for round := range 60 {
			l := feedThrown(t, &d, s, 12, []int{2, 5, 40}[round%3], round%4 == 0)
			for e := range l {
				seen[e] += l[e]
			}
		}
	}
	if seen[api.OK] < 1000 || seen[api.ErrForm] < 100 || seen[api.ErrLarge] < 100 {
		t.Error("too few of a kind", seen)
	}
}

// P13: what is fed at once or bit by bit, and in whatever order, is told alike in the end.
func TestBitByBit(t *testing.T) {
	d := dice(2)
	for _, s := range texts() {
		for range 20 {
			a, b := d.set(8, false), d.set(8, false)
			once := viewOf(t, s)
			if _, e := once.Feed(a, b); e != api.OK {
				t.Fatal(s, a, b, e)
			}
			bits, back := viewOf(t, s), viewOf(t, s)
			for i := range a {
				bits.Feed(a[i:i+1], nil)
				back.Feed(a[len(a)-1-i:len(a)-i], nil)
			}
			for i := range b {
				bits.Feed(nil, b[i:i+1])
				back.Feed(nil, b[len(b)-1-i:len(b)-i])
			}
			if !same(once.All(), bits.All()) || !same(once.All(), back.All()) {
				t.Fatal(s, a, b, once.All(), bits.All(), back.All())
			}
		}
	}
}
