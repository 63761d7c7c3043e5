package net

import (
	"testing"

	"viewmere/api"
)

// fill: writes over a list, and the room behind it.
func fill[T any](l []T, x T) {
	l = l[:cap(l)]
	for i := range l {
		l[i] = x
	}
}

// scrawlTable: writes over a table's lists.
func scrawlTable(x api.Table) {
	fill(x.Context.Cloud, api.Dot{Node: -9, Seq: -9})
	fill(x.Cells, cell(-9, -9, -9, -9, -9))
}

// scrawlItems: writes over a list of items and its rows.
func scrawlItems(l []api.Item) {
	for i := range l {
		fill(l[i].Row, -9)
	}
	fill(l, item(-9, -9))
}

// scrawlAll: writes over all that a net tells.
func scrawlAll(n *Net) {
	for id := range api.Nodes {
		for i := range api.Tables {
			x, _ := n.Table(id, i)
			scrawlTable(x)
		}
		for i := range 4 {
			l, _ := n.View(id, i)
			scrawlItems(l)
		}
	}
}

// more: what happens to a busy net further on, right all of it.
func more() []api.Happens {
	return []api.Happens{
		put(0, 0, 3, 1, 1), take(0), put(3, 1, 5, 2, 4), del(1, 0, 6), send(3, 0), diff(1, 0), take(5), take(2), take(1),
		watch(2, "table 0\ntable 1\nunion 0 1\n"), take(4), put(2, 1, 5, 2, 3), diff(2, 3), take(6), take(3),
	}
}

// P2: what is told is new memory: whatever is written over it, the net stays as it was, its packets too.
func TestTold(t *testing.T) {
	n, alone := busy(t), busy(t)
	for _, x := range more() {
		scrawlAll(n)
		alike(t, n, alone)
		happen(t, n, x)
		happen(t, alone, x)
		alike(t, n, alone)
	}
	if e, f := n.Meet(), alone.Meet(); e != api.OK || f != api.OK {
		t.Error(e, f)
	}
	scrawlAll(n)
	alike(t, n, alone)
}

// clouded: a net with clouds in both tables of node 1.
func clouded(t *testing.T) *Net {
	t.Helper()
	return netOf(t, put(0, 0, 3, 1, 7), put(0, 1, 3, 1, 7), send(0, 1), take(0),
		put(0, 0, 4, 0, 1), put(0, 1, 4, 0, 1), put(0, 0, 4, 0, 2), put(0, 1, 4, 0, 2), put(0, 0, 5, 0, 1), put(0, 1, 5, 0, 1),
		diff(0, 1), watch(1, "table 0\n"))
}

// P2: the packets of a net share nothing with the tables that come of them.
func TestPacketsApart(t *testing.T) {
	n, alone := clouded(t), clouded(t)
	for range 3 {
		happen(t, n, take(1))
		happen(t, alone, take(1))
		scrawlAll(n)
		alike(t, n, alone)
	}
	for _, x := range n.packets {
		scrawlTable(x.packet.Tables[0])
		scrawlTable(x.packet.Tables[1])
	}
	alike(t, n, alone)
}

// P2: an answer stays as it was told, whatever happens later on.
func TestToldEarlier(t *testing.T) {
	n := busy(t)
	first, _ := n.Table(0, 0)
	second, _ := n.Table(0, 1)
	rows, _ := n.View(0, 0)
	left := busy(t)
	happen(t, n, more()...)
	happen(t, n, del(0, 0, 3), put(0, 1, 4, 0, 3))
	n.Meet()
	has(t, left, 0, 0, first)
	has(t, left, 0, 1, second)
	tells(t, left, 0, 0, rows...)
}

// P2: the rows of one answer share nothing with one another.
func TestListsApart(t *testing.T) {
	n := busy(t)
	n.Meet()
	l, _ := n.View(0, 0)
	want, _ := n.View(0, 0)
	if len(l) < 3 {
		t.Fatal(l)
	}
	for i := range l {
		fill(l[i].Row, -9)
		copy(l[i].Row, want[i].Row)
		if !sameItems(l, want) {
			t.Fatal("row", i, "shares with another one", l)
		}
	}
}

// P2: nets have nothing in common, also where one was copied from the other.
func TestNetsApart(t *testing.T) {
	n, alone := busy(t), busy(t)
	copied := *n
	happen(t, &copied, more()...)
	copied.Meet()
	alike(t, n, alone)
	// Each sends a packet of its own, of the same number.
	one := *n
	happen(t, &one, put(0, 0, 9, 0, 1), send(0, 3))
	happen(t, n, put(0, 0, 9, 0, 2), send(0, 3))
	last := n.Packets() - 1
	happen(t, &one, take(last))
	happen(t, n, take(last))
	for want, x := range map[int]*Net{1: &one, 2: n} {
		y, _ := x.Table(3, 0)
		if len(y.Cells) == 0 || y.Cells[1].Key != 9 || y.Cells[1].Value != want {
			t.Error(want, y)
		}
	}
}
