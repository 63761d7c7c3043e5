package plain

import (
	"math"
	"slices"
	"testing"

	"viewmere/api"
	"viewmere/zset"
)

// bag: a model of sets without bounds: each row that is there, by its eight numbers, of which those
// behind its width are 0, and how many times.
type bag map[[api.MaxWidth]int]int

// key of a row.
func key(row ...int) (k [api.MaxWidth]int) {
	copy(k[:], row)
	return k
}

// bagOf a set.
func bagOf(l []api.Item) bag {
	g := bag{}
	for _, x := range l {
		g[key(x.Row...)] += x.N
	}
	return g
}

// set of a bag whose rows are all as wide, with a step's error.
func (g bag) set(width int) ([]api.Item, api.Errno) {
	var l []api.Item
	e := api.OK
	for k, n := range g {
		if n == 0 {
			continue
		}
		if n > w || n < -w || slices.Max(k[:]) > m || slices.Min(k[:]) < -m {
			e = api.ErrForm
		}
		l = append(l, api.Item{Row: slices.Clone(k[:width]), N: n})
	}
	if e == api.OK && len(l) > api.MaxItems {
		e = api.ErrLarge
	}
	if e != api.OK {
		return nil, e
	}
	slices.SortFunc(l, func(x, y api.Item) int { return slices.Compare(x.Row, y.Row) })
	return l, api.OK
}

// modelStep: what a step makes of the sets that it takes, and its width.
func modelStep(s api.Step, a, b []api.Item, widthA, widthB int) (bag, int) {
	g, width := bag{}, widthA
	switch s.Kind {
	case api.QWhere:
		for _, x := range a {
			n := x.Row[s.Col]
			if s.Op == api.OLess && n < s.Value || s.Op == api.OEqual && n == s.Value || s.Op == api.OMore && n > s.Value {
				g[key(x.Row...)] += x.N
			}
		}
	case api.QPick:
		width = len(s.List)
		for _, x := range a {
			var k [api.MaxWidth]int
			for i, col := range s.List {
				k[i] = x.Row[col]
			}
			g[k] += x.N
		}
	case api.QJoin:
		width = widthA + widthB
		for _, x := range a {
			for _, y := range b {
				if x.Row[s.Col] == y.Row[s.Value] {
					g[key(slices.Concat(x.Row, y.Row)...)] += x.N * y.N
				}
			}
		}
	case api.QUnion, api.QMinus:
		g = bagOf(a)
		for _, y := range b {
			g[key(y.Row...)] += y.N * (1 - 2*(s.Kind-api.QUnion))
		}
	case api.QDistinct:
		for _, x := range a {
			if x.N >= 1 {
				g[key(x.Row...)] = 1
			}
		}
	case api.QCount, api.QSum:
		width = 2
		for _, x := range a {
			n, sum := 0, 0
			for _, y := range a {
				if y.Row[s.Col] == x.Row[s.Col] {
					n += y.N
					sum += y.N * y.Row[s.Value]
				}
			}
			if s.Kind == api.QCount {
				sum = n
			}
			if n != 0 {
				g[key(x.Row[s.Col], sum)] = 1
			}
		}
	}
	return g, width
}

// model: all sets of a query that is right, of two sets that are right, and the widths of its steps.
func model(q []api.Step, a, b []api.Item) ([][]api.Item, api.Errno) {
	var sets [][]api.Item
	var widths []int
	for _, s := range q {
		g, width := bagOf([][]api.Item{a, b}[s.A&1]), 4
		if s.Kind != api.QTable {
			g, width = modelStep(s, sets[s.A], sets[s.B], widths[s.A], widths[s.B])
		}
		l, e := g.set(width)
		if e != api.OK {
			return nil, e
		}
		sets, widths = append(sets, l), append(widths, width)
	}
	return sets, api.OK
}

// dice: numbers that look thrown, the same ones at each run.
type dice uint64

// throw: one of n numbers, from 0 on.
func (d *dice) throw(n int) int {
	*d = *d*6364136223846793005 + 1442695040888963407
	return int(uint64(*d)>>33) % n
}

// oneOf these numbers.
func (d *dice) oneOf(l ...int) int { return l[d.throw(len(l))] }

// items: some items over few numbers; now and then with great numbers and weights.
func (d *dice) items(most int, great bool) []api.Item {
	g := bag{}
	for range d.throw(most + 1) {
		var k [api.MaxWidth]int
		for i := range 4 {
			k[i] = d.throw(5) - 2
			if great && d.throw(8) == 0 {
				k[i] = d.oneOf(m, m-1, -m, 1-m)
			}
		}
		g[k] = d.oneOf(-2, -1, -1, 1, 1, 1, 2, 3)
		if great && d.throw(8) == 0 {
			g[k] = d.oneOf(w, -w, w-1, 1-w, 1<<10, -1<<10)
		}
	}
	l, _ := g.set(4)
	return l
}

// step: a step that may stand behind those whose widths are given, and its own width.
func (d *dice) step(widths []int) (api.Step, int) {
	for {
		s := api.Step{Kind: 1 + d.throw(9)}
		if s.Kind == api.QTable {
			s.A = d.throw(2)
			return s, 4
		}
		if len(widths) == 0 {
			continue
		}
		s.A = d.throw(len(widths))
		width := widths[s.A]
		switch s.Kind {
		case api.QWhere:
			s.Col, s.Op, s.Value = d.throw(width), 1+d.throw(3), d.throw(5)-2
		case api.QPick:
			for range 1 + d.throw(4) {
				s.List = append(s.List, d.throw(width))
			}
			return s, len(s.List)
		case api.QJoin, api.QUnion, api.QMinus:
			s.B = d.throw(len(widths))
			if s.Kind != api.QJoin && widths[s.B] != width || s.Kind == api.QJoin && width+widths[s.B] > 8 {
				continue
			}
			if s.Kind == api.QJoin {
				s.Col, s.Value = d.throw(width), d.throw(widths[s.B])
				width += widths[s.B]
			}
		case api.QCount, api.QSum:
			s.Col = d.throw(width)
			if s.Kind == api.QSum {
				s.Value = d.throw(width)
			}
			width = 2
		}
		return s, width
	}
}

// query: one of up to 8 steps.
func (d *dice) query() []api.Step {
	var q []api.Step
	var widths []int
	for range 1 + d.throw(api.MaxSteps) {
		s, width := d.step(widths)
		q, widths = append(q, s), append(widths, width)
	}
	return q
}

// P12: queries of all kinds tell what the model tells, step by step, with its errors.
func TestModel(t *testing.T) {
	d := dice(1)
	var seen [6]int
	for i := range 30000 {
		most := []int{3, 12, 60}[i%3]
		a, b, q := d.items(most, i%5 == 0), d.items(most, i%5 == 0), d.query()
		want, e := model(q, a, b)
		all, f := All(q, a, b)
		last, g := Eval(q, a, b)
		if e != f || e != g || !sameSets(all, want) || e != api.OK && (all != nil || last != nil) {
			t.Fatal(q, a, b, all, f, g, want, e)
		}
		if e == api.OK && !same(last, want[len(want)-1]) {
			t.Fatal(q, a, b, last, want)
		}
		for _, l := range all {
			if zset.Check(l) != api.OK {
				t.Fatal(q, a, b, l)
			}
		}
		seen[e]++
	}
	if seen[api.OK] < 1000 || seen[api.ErrForm] < 100 || seen[api.ErrLarge] < 100 {
		t.Error("too few of a kind", seen)
	}
}

// P12: each step alone tells what the model tells, of all sets of three rows, each from -2 to 2 times.
func TestSmallSets(t *testing.T) {
	var sets [][]api.Item
	for i := range 125 {
		g := bag{key(0, 1, 0, 1): i%5 - 2, key(0, 1, 1, 0): i/5%5 - 2, key(1, 0, 1, 1): i/25 - 2}
		l, _ := g.set(4)
		sets = append(sets, l)
	}
	steps := []api.Step{{Kind: api.QTable}, {Kind: api.QDistinct}, {Kind: api.QUnion, B: 1}, {Kind: api.QMinus, B: 1}, {Kind: api.QUnion}, {Kind: api.QMinus}}
	for col := range 4 {
		steps = append(steps, api.Step{Kind: api.QCount, Col: col}, api.Step{Kind: api.QPick, List: []int{col}})
		for other := range 4 {
			steps = append(steps, api.Step{Kind: api.QSum, Col: col, Value: other}, api.Step{Kind: api.QPick, List: []int{col, other}})
			steps = append(steps, api.Step{Kind: api.QJoin, B: 1, Col: col, Value: other})
		}
		for op := 1; op <= 3; op++ {
			for value := -1; value <= 2; value++ {
				steps = append(steps, api.Step{Kind: api.QWhere, Col: col, Op: op, Value: value})
			}
		}
	}
	for _, s := range steps {
		q := []api.Step{{Kind: api.QTable}, {Kind: api.QTable, A: 1}, s}
		for i, a := range sets {
			for j := range 5 {
				b := sets[(i*7+j*31)%len(sets)]
				want, e := model(q, a, b)
				if all, f := All(q, a, b); e != f || !sameSets(all, want) {
					t.Fatal(q, a, b, all, f, want, e)
				}
			}
		}
	}
}

// P1: no call panics, whatever it is given, and what is told beside OK are sets.
func TestNoPanic(t *testing.T) {
	d := dice(2)
	wild := []int{math.MinInt, -m - 1, -m, -w - 1, -1, 0, 1, 2, 3, 4, 7, 8, 9, w + 1, m, m + 1, math.MaxInt}
	lists := [][]api.Item{nil, make([]api.Item, 3), rows(401, 1), {item(1, make([]int, 1000)...)}, rows(400, w)}
	for range 30000 {
		q := d.query()
		for range d.throw(3) { // some of a query's numbers are wild
			s := &q[d.throw(len(q))]
			*[]*int{&s.Kind, &s.A, &s.B, &s.Col, &s.Op, &s.Value}[d.throw(6)] = d.oneOf(wild...)
			if d.throw(4) == 0 {
				s.List = append(s.List, d.oneOf(wild...))
			}
		}
		a, b := d.items(4, true), d.items(4, true)
		if len(a) > 0 && d.throw(2) == 0 {
			a[0].Row[d.throw(4)], a[0].N = d.oneOf(wild...), d.oneOf(wild...)
		}
		if d.throw(4) == 0 {
			b = lists[d.throw(len(lists))]
		}
		all, e := All(q, a, b)
		l, f := Eval(q, a, b)
		if e != f || e != api.OK && (all != nil || l != nil) || zset.Check(l) != api.OK {
			t.Fatal(q, a, b, all, e, l, f)
		}
	}
}
