package dot

import (
	"math"
	"reflect"
	"slices"
	"testing"

	"viewmere/api"
)

// P7 leans on it: Without of each two sets, in any order and twice.
func TestWithoutEachSet(t *testing.T) {
	all := contexts(t)
	for i, c := range all {
		for j := range all {
			l := pick(j)
			slices.Reverse(l)
			if x, e := Without(c, slices.Concat(l, l)); e != api.OK || !same(x, all[i&^j]) {
				t.Fatal(c, l, x, e)
			}
		}
	}
}

// P7 leans on it: Without counts the cloud that a hole in the clock leaves behind it.
func TestWithoutAtTheLimit(t *testing.T) {
	top := context([4]int{api.MaxSeq, api.MaxSeq, api.MaxSeq, api.MaxSeq})
	for _, x := range []struct {
		c    api.Context
		l    []api.Dot
		want api.Context
		e    api.Errno
	}{
		{context([4]int{0, 401}), []api.Dot{d(1, 1)}, context([4]int{}, run(1, 2, 400)...), api.OK},
		{context([4]int{0, 402}), []api.Dot{d(1, 1)}, api.Context{}, api.ErrLarge},
		{context([4]int{0, 402}), []api.Dot{d(1, 1), d(1, 402)}, context([4]int{}, run(1, 2, 400)...), api.OK},
		{context([4]int{0, 402}), []api.Dot{d(1, 402)}, context([4]int{0, 401}), api.OK},
		{context([4]int{201, 0, 0, 201}), []api.Dot{d(0, 1), d(3, 1)}, context([4]int{}, slices.Concat(run(0, 2, 200), run(3, 2, 200))...), api.OK},
		{context([4]int{201, 0, 0, 202}), []api.Dot{d(0, 1), d(3, 1)}, api.Context{}, api.ErrLarge},
		{context([4]int{2}, gaps(0, 4, 400)...), []api.Dot{d(0, 2)}, context([4]int{1}, gaps(0, 4, 400)...), api.OK},
		{context([4]int{2}, gaps(0, 4, 400)...), []api.Dot{d(0, 1)}, api.Context{}, api.ErrLarge},
		{context([4]int{2}, gaps(0, 4, 400)...), []api.Dot{d(0, 1), d(0, 802)}, context([4]int{}, append([]api.Dot{d(0, 2)}, gaps(0, 4, 399)...)...), api.OK},
		{top, []api.Dot{d(2, api.MaxSeq)}, context([4]int{api.MaxSeq, api.MaxSeq, api.MaxSeq - 1, api.MaxSeq}), api.OK},
		{top, []api.Dot{d(2, 1)}, api.Context{}, api.ErrLarge},
		{top, []api.Dot{d(0, 1), d(1, 1), d(2, 1), d(3, 1)}, api.Context{}, api.ErrLarge},
		{context([4]int{3}), []api.Dot{d(0, 4), d(0, 0), d(0, -1), d(-1, 1), d(4, 1), d(math.MinInt, math.MinInt), d(math.MaxInt, math.MaxInt)}, context([4]int{3}), api.OK},
	} {
		if c, e := Without(x.c, x.l); e != x.e || !same(c, x.want) {
			t.Error(x.c, x.l, c, e)
		}
	}
	for _, x := range broken() {
		if c, e := Without(x.c, []api.Dot{d(0, 1)}); e != x.want || !reflect.DeepEqual(c, api.Context{}) {
			t.Error(x.c, c, e)
		}
	}
}

// run: n dots of node, from first on, one behind the other.
func run(node, first, n int) []api.Dot {
	l := []api.Dot{}
	for i := range n {
		l = append(l, d(node, first+i))
	}
	return l
}

// P2: Without changes nothing, and shares nothing.
func TestWithoutMemory(t *testing.T) {
	cloud, l := roomy([]api.Dot{d(0, 6), d(1, 9)}), roomy([]api.Dot{d(1, 9), d(0, 3)})
	wholeCloud, wholeL := slices.Clone(cloud[:cap(cloud)]), slices.Clone(l[:cap(l)])
	c, e := Without(context([4]int{4}, cloud...), l)
	if e != api.OK || !same(c, context([4]int{2}, d(0, 4), d(0, 6))) {
		t.Error(c, e)
	}
	scrawl(c.Cloud)
	if !slices.Equal(cloud[:cap(cloud)], wholeCloud) || !slices.Equal(l[:cap(l)], wholeL) {
		t.Error(cloud, l)
	}
}

// P3: dots are ordered by node, of one node by number.
func TestOrder(t *testing.T) {
	l := []api.Dot{d(math.MinInt, math.MaxInt), d(0, math.MinInt), d(0, 1), d(0, 2), d(1, 1), d(3, api.MaxSeq), d(math.MaxInt, math.MinInt)}
	for i, a := range l {
		for j, b := range l {
			n := Order(a, b)
			if (n < 0) != (i < j) || (n > 0) != (i > j) {
				t.Error(a, b, n)
			}
		}
	}
}
