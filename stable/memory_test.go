package stable

import (
	"math"
	"slices"
	"testing"

	"viewmere/api"
)

// roomy: a list with the same in it, and with room behind it that is written full.
func roomy[T any](l []T, filler T) []T {
	return append(slices.Clone(l), filler, filler, filler)[:len(l)]
}

// roomyContexts: the same contexts, with room behind the list and behind each cloud.
func roomyContexts(l contexts) contexts {
	var copied contexts
	for _, c := range l {
		copied = append(copied, api.Context{Clock: c.Clock, Cloud: roomy(c.Cloud, d(-7, -7))})
	}
	return roomy(copied, context([4]int{-7}, d(-7, -7)))
}

// roomyTable: the same table, with room behind its lists.
func roomyTable(t api.Table) api.Table {
	return api.Table{
		Context: api.Context{Clock: t.Context.Clock, Cloud: roomy(t.Context.Cloud, d(-7, -7))},
		Cells:   roomy(t.Cells, cellAt(d(-7, -7))),
	}
}

// given: what is handed in, each list with the room behind it.
type given struct {
	t api.Table
	l contexts
}

// whole: a copy of what is handed in, the room behind each list included.
func (g given) whole() given {
	copied := given{t: g.t, l: slices.Clone(g.l[:cap(g.l)])}
	copied.t.Context.Cloud = slices.Clone(g.t.Context.Cloud[:cap(g.t.Context.Cloud)])
	copied.t.Cells = slices.Clone(g.t.Cells[:cap(g.t.Cells)])
	for i, c := range copied.l {
		copied.l[i].Cloud = slices.Clone(c.Cloud[:cap(c.Cloud)])
	}
	return copied
}

// same: is both the same?
func (g given) same(h given) bool {
	return same(g.t.Context, h.t.Context) && slices.Equal(g.t.Cells, h.t.Cells) && slices.EqualFunc(g.l, h.l, same)
}

// scrawl: writes over a list and the room behind it.
func scrawl[T any](l []T, filler T) {
	l = l[:cap(l)]
	for i := range l {
		l[i] = filler
	}
}

// scrawl: writes over all of it, the room behind each list included.
func (g given) scrawl() {
	for _, c := range g.l {
		scrawl(c.Cloud, d(-9, -9))
	}
	scrawl(g.l, context([4]int{-9}))
	scrawl(g.t.Context.Cloud, d(-9, -9))
	scrawl(g.t.Cells, cellAt(d(-9, -9)))
}

// samples: what is handed in to the tests of memory.
func samples() []given {
	a := context([4]int{3, 1}, d(1, 3), d(1, 5), d(2, 2))
	b := context([4]int{2, 3}, d(1, 5), d(2, 2))
	x := api.Table{Context: a, Cells: cellsAt(d(0, 2), d(0, 3), d(1, 3), d(2, 2))}
	return []given{
		{x, contexts{a}},
		{x, contexts{a, a}},
		{x, contexts{a, b}},
		{x, contexts{b, a, b, context([4]int{9, 9, 9, 9})}},
		{x, contexts{context([4]int{9, 9, 9}, d(3, 4))}},
	}
}

// P2: nothing that is handed in is changed, and no answer shares memory with it or with another one.
func TestMemory(t *testing.T) {
	for i, g := range samples() {
		mine := given{roomyTable(g.t), roomyContexts(g.l)}
		before := mine.whole()
		one, e := Meet(mine.l)
		two, f := Meet(mine.l)
		cells, _ := Settled(mine.t, mine.l)
		more, _ := Settled(mine.t, mine.l)
		if e != api.OK || f != api.OK || len(one.Cloud) == 0 || len(cells) == 0 || !same(one, two) || !slices.Equal(cells, more) {
			t.Fatal(i, one, two, cells, more)
		}
		wantMet, wantMore := context(two.Clock, slices.Clone(two.Cloud)...), slices.Clone(more)
		scrawl(one.Cloud, d(-9, -9))
		scrawl(cells, cellAt(d(-9, -9)))
		if !mine.whole().same(before) {
			t.Error(i, "changes what is handed in, or shares it", mine)
		}
		mine.scrawl()
		if !same(two, wantMet) || !slices.Equal(more, wantMore) {
			t.Error(i, "shares with what was handed in, or with another answer", two, more)
		}
		again, _ := Meet(g.l)
		if !same(again, wantMet) {
			t.Error(i, "hangs on earlier calls", again)
		}
	}
}

// P2: an error leaves alone what is handed in, too.
func TestMemoryOfErrors(t *testing.T) {
	for i, g := range samples() {
		for _, c := range broken() {
			mine := given{roomyTable(g.t), roomyContexts(append(slices.Clone(g.l), c.c))}
			before := mine.whole()
			Meet(mine.l)
			Settled(mine.t, mine.l)
			if !mine.whole().same(before) {
				t.Error(i, c, mine)
			}
		}
	}
}

// P1: no call panics, whatever it is given.
func TestNoPanic(t *testing.T) {
	numbers := []int{math.MinInt, -1, 0, 1, 4, top, top + 1, math.MaxInt}
	var all contexts
	for _, m := range numbers {
		for _, n := range numbers {
			all = append(all, context([4]int{m, n, n, m}, d(n, m)), context([4]int{m}, d(1, n)), context([4]int{n}, d(m, 9), d(n, 9)))
		}
	}
	for _, a := range all {
		for _, b := range all {
			Meet(contexts{a, b})
			Settled(api.Table{Context: a, Cells: cellsAt(b.Cloud...)}, contexts{b, a})
			Settled(api.Table{Context: a}, contexts{{}, b})
		}
	}
	Meet(all)
	Settled(api.Table{}, nil)
}
