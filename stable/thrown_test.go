package stable

import (
	"math"
	"reflect"
	"slices"
	"testing"

	"viewmere/api"
	"viewmere/dot"
	"viewmere/table"
)

// The dots that the tests of all sets are made of: two nodes, three dots each.
func universe() []api.Dot {
	return []api.Dot{d(0, 1), d(0, 2), d(0, 3), d(2, 1), d(2, 2), d(2, 3)}
}

// pick: those dots of the universe whose bits are set.
func pick(set int) []api.Dot {
	var l []api.Dot
	for i, x := range universe() {
		if set>>i&1 == 1 {
			l = append(l, x)
		}
	}
	return l
}

// P15: each one, two and three sets.
func TestEachThreeSets(t *testing.T) {
	var all contexts
	for set := range 1 << len(universe()) {
		c, e := dot.Make(pick(set))
		if e != api.OK {
			t.Fatal(set, e)
		}
		all = append(all, c)
	}
	for i, a := range all {
		want(t, contexts{a}, a)
		for j, b := range all {
			want(t, contexts{a, b}, all[i&j])
			wantCells(t, api.Table{Context: a, Cells: cellsAt(pick(i)...)}, contexts{b}, cellsAt(pick(i&j)...)...)
			for k, c := range all {
				if met, e := Meet(contexts{a, b, c}); e != api.OK || !same(met, all[i&j&k]) {
					t.Fatal(a, b, c, met, e)
				}
				cells, e := Settled(api.Table{Context: a, Cells: cellsAt(pick(i)...)}, contexts{b, c})
				if e != api.OK || !slices.Equal(cells, cellsAt(pick(i&j&k)...)) {
					t.Fatal(a, b, c, cells, e)
				}
			}
		}
	}
}

// dice: numbers that look thrown, the same ones at each run.
type dice uint64

// throw: one of n numbers, from 0 on.
func (x *dice) throw(n int) int {
	*x = *x*6364136223846793005 + 1442695040888963407
	return int(uint64(*x)>>33) % n
}

// oneOf these numbers.
func (x *dice) oneOf(l ...int) int { return l[x.throw(len(l))] }

// reach: no thrown right context has a dot beyond it, so that those that all have can be told one by one.
const reach = 1000

// context: a right one, at times with a cloud as large as it may be.
func (x *dice) context() api.Context {
	var c api.Context
	for node := range c.Clock {
		c.Clock[node] = x.oneOf(0, 0, 3, reach/2, reach, x.throw(reach))
	}
	least := x.oneOf(2, 2, 3, 40)
	for node, seq := range c.Clock {
		for {
			seq += x.oneOf(1, least)
			if seq > reach || len(c.Cloud) == api.MaxDots {
				break
			}
			if seq > c.Clock[node]+1 {
				c.Cloud = append(c.Cloud, d(node, seq))
			}
		}
	}
	return c
}

// spoil: one thing of a context that dot.Check may not take, or may.
func (x *dice) spoil(c *api.Context) {
	n := x.oneOf(math.MinInt, -1, 0, 1, 2, 3, top, top+1, math.MaxInt)
	switch {
	case len(c.Cloud) == 0 || x.throw(3) == 0:
		c.Clock[x.throw(api.Nodes)] = n
	case x.throw(2) == 0:
		c.Cloud[x.throw(len(c.Cloud))].Node = n
	case x.throw(2) == 0:
		c.Cloud = append(c.Cloud, make([]api.Dot, api.MaxDots)...)
	default:
		c.Cloud[x.throw(len(c.Cloud))].Seq = n
	}
}

// table: some of the cells that a context may have.
func (x *dice) table() api.Table {
	t := api.Table{Context: x.context()}
	for node := range api.Nodes {
		for seq := 1; seq <= reach && len(t.Cells) < api.MaxDots; seq += 1 + x.throw(9) {
			if c := d(node, seq); dot.Has(t.Context, c) {
				t.Cells = append(t.Cells, cellAt(c))
			}
		}
	}
	return t
}

// errorOf what Meet is given, as P15 tells it, but for what would be too large.
func errorOf(l contexts) api.Errno {
	if len(l) == 0 {
		return api.ErrArg
	}
	for _, c := range l {
		if e := dot.Check(c); e != api.OK {
			return e
		}
	}
	return api.OK
}

// inAll: have all of these the dot, as P3 tells it?
func inAll(l contexts, x api.Dot) bool {
	return !slices.ContainsFunc(l, func(c api.Context) bool {
		return c.Clock[x.Node] < x.Seq && !slices.Contains(c.Cloud, x)
	})
}

// met: the context that P15 asks for, found by asking for each dot that there may be.
func met(l contexts) api.Context {
	var c api.Context
	for node := range api.Nodes {
		for seq := 1; seq <= reach; seq++ {
			switch {
			case !inAll(l, d(node, seq)):
			case c.Clock[node] == seq-1:
				c.Clock[node] = seq
			default:
				c.Cloud = append(c.Cloud, d(node, seq))
			}
		}
	}
	return c
}

// checkThrown: holds what Meet and Settled tell against what P15 says, and tells the error.
func checkThrown(t *testing.T, x api.Table, l contexts) api.Errno {
	t.Helper()
	c, e := Meet(l)
	cells, f := Settled(x, l)
	wantE, wantMet := errorOf(l), api.Context{}
	if wantE == api.OK {
		wantMet = met(l)
	}
	if len(wantMet.Cloud) > api.MaxDots {
		wantE = api.ErrLarge
	}
	if e != wantE || f != wantE {
		t.Fatal(l, e, f, wantE)
	}
	if e != api.OK {
		if !reflect.DeepEqual(c, api.Context{}) || cells != nil {
			t.Fatal(l, e, c, cells)
		}
		return e
	}
	var wantSettled []api.Cell
	for _, y := range x.Cells {
		if inAll(l, y.Dot) {
			wantSettled = append(wantSettled, y)
		}
	}
	if !same(c, wantMet) || dot.Check(c) != api.OK || !slices.Equal(cells, wantSettled) {
		t.Fatal(x, l, c, wantMet, cells, wantSettled)
	}
	return e
}

// P15: thrown contexts, right ones and wrong ones, held against what P15 says.
func TestThrown(t *testing.T) {
	x := dice(15)
	told := map[api.Errno]int{}
	for range 600 {
		var l contexts
		for range x.oneOf(0, 1, 2, 2, 2, 3, 5) {
			l = append(l, x.context())
		}
		mine := x.table()
		if e := table.Check(mine); e != api.OK {
			t.Fatal(mine, e)
		}
		if len(l) > 0 && x.throw(4) == 0 {
			x.spoil(&l[x.throw(len(l))])
		}
		if slices.ContainsFunc(l, func(c api.Context) bool { return slices.Max(c.Clock[:]) == top }) {
			continue
		}
		told[checkThrown(t, mine, l)]++
	}
	for _, e := range []api.Errno{api.OK, api.ErrArg, api.ErrLarge, api.ErrForm} {
		if told[e] < 20 {
			t.Error("too few of", e, told)
		}
	}
}
