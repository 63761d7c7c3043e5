package net

import (
	"math"
	"slices"
	"strings"
	"testing"

	"viewmere/api"
	"viewmere/table"
)

// put: node a writes a value into its table i.
func put(a, i, key, col, value int) api.Happens {
	return api.Happens{Kind: api.HEdit, A: a, Edit: api.Edit{Kind: api.EPut, Table: i, Key: key, Col: col, Value: value}}
}

// del: node a deletes a row of its table i.
func del(a, i, key int) api.Happens {
	return api.Happens{Kind: api.HEdit, A: a, Edit: api.Edit{Kind: api.EDel, Table: i, Key: key}}
}

// send: node a tells b all.
func send(a, b int) api.Happens { return api.Happens{Kind: api.HSend, A: a, B: b} }

// diff: node a tells b what b hasn't seen.
func diff(a, b int) api.Happens { return api.Happens{Kind: api.HDiff, A: a, B: b} }

// take: packet i comes to its end.
func take(i int) api.Happens { return api.Happens{Kind: api.HTake, N: i} }

// watch: node a has a view of a query's text.
func watch(a int, text string) api.Happens {
	return api.Happens{Kind: api.HView, A: a, Text: text}
}

// item: a row n times.
func item(n int, row ...int) api.Item { return api.Item{Row: row, N: n} }

// cell: of a node's edit.
func cell(node, seq, key, col, value int) api.Cell {
	return api.Cell{Dot: api.Dot{Node: node, Seq: seq}, Key: key, Col: col, Value: value}
}

// tableOf clocks and cells.
func tableOf(clock [api.Nodes]int, cells ...api.Cell) api.Table {
	return api.Table{Context: api.Context{Clock: clock}, Cells: cells}
}

// sameItems: are two lists of items the same, an empty one being as good as none?
func sameItems(a, b []api.Item) bool {
	return slices.EqualFunc(a, b, func(x, y api.Item) bool { return x.N == y.N && slices.Equal(x.Row, y.Row) })
}

// sameTable: are two tables the same, an empty list being as good as none?
func sameTable(a, b api.Table) bool {
	return a.Context.Clock == b.Context.Clock && slices.Equal(a.Context.Cloud, b.Context.Cloud) && slices.Equal(a.Cells, b.Cells)
}

// happen: things that are all right happen in a net.
func happen(t *testing.T, n *Net, l ...api.Happens) {
	t.Helper()
	for i, x := range l {
		if e := n.Do(x); e != api.OK {
			t.Fatal(i, x, e)
		}
	}
}

// netOf: a new net in which all these happened.
func netOf(t *testing.T, l ...api.Happens) *Net {
	t.Helper()
	n := New()
	happen(t, n, l...)
	return n
}

// fails: what happens has this error.
func fails(t *testing.T, n *Net, want api.Errno, l ...api.Happens) {
	t.Helper()
	for _, x := range l {
		if e := n.Do(x); e != want {
			t.Error(x, e, want)
		}
	}
}

// has: table i of a node is this.
func has(t *testing.T, n *Net, id, i int, want api.Table) {
	t.Helper()
	if x, e := n.Table(id, i); e != api.OK || !sameTable(x, want) {
		t.Error(id, i, x, e, want)
	}
}

// isEmpty: neither table of a node has anything.
func isEmpty(t *testing.T, n *Net, ids ...int) {
	t.Helper()
	for _, id := range ids {
		has(t, n, id, 0, api.Table{})
		has(t, n, id, 1, api.Table{})
	}
}

// tells: view i of a node tells this.
func tells(t *testing.T, n *Net, id, i int, want ...api.Item) {
	t.Helper()
	if l, e := n.View(id, i); e != api.OK || !sameItems(l, want) {
		t.Error(id, i, l, e, want)
	}
}

// alike: have both nets the same, as far as can be seen?
func alike(t *testing.T, a, b *Net) {
	t.Helper()
	if a.Packets() != b.Packets() {
		t.Fatal(a.Packets(), b.Packets())
	}
	for id := range api.Nodes {
		for i := range api.Tables {
			x, e := b.Table(id, i)
			if e != api.OK {
				t.Fatal(e)
			}
			has(t, a, id, i, x)
		}
		for i := range 5 {
			l, e := a.View(id, i)
			want, f := b.View(id, i)
			if e != f || !sameItems(l, want) {
				t.Error(id, i, l, e, want, f)
			}
		}
	}
}

// wild numbers: of no node, table or packet.
func wild() []int {
	return []int{math.MinInt, -1 << 32, -4, -1, 4, 5, 200, 1 << 32, 1<<32 + 1, math.MaxInt}
}

// P20: a new net has four nodes, without edits, packets and views.
func TestNew(t *testing.T) {
	n := New()
	isEmpty(t, n, 0, 1, 2, 3)
	if n.Packets() != 0 {
		t.Error(n.Packets())
	}
	fails(t, n, api.ErrNone, take(0))
	for id := range api.Nodes {
		if l, e := n.View(id, 0); l != nil || e != api.ErrNone {
			t.Error(id, l, e)
		}
	}
}

// P20: an edit is of node A, by its number, and of nobody else.
func TestEdit(t *testing.T) {
	for id := range api.Nodes {
		n := netOf(t, put(id, 0, 3, 1, 7), put(id, 1, 4, 2, -1000), put(id, 1, 49, 0, 5), del(id, 1, 4))
		var one, two [api.Nodes]int
		one[id], two[id] = 1, 2
		for other := range api.Nodes {
			if other != id {
				isEmpty(t, n, other)
			}
		}
		has(t, n, id, 0, tableOf(one, cell(id, 1, 3, 1, 7)))
		// The dot of the deleted row was seen.
		has(t, n, id, 1, tableOf(two, cell(id, 2, 49, 0, 5)))
	}
}

// P20: what a kind has no use for is not looked at.
func TestNotLookedAt(t *testing.T) {
	const far = math.MaxInt
	wrong := api.Edit{Kind: far, Table: far, Key: far, Col: far, Value: far}
	l := []api.Happens{put(0, 0, 3, 1, 7), send(0, 1), diff(0, 2), take(0), take(1), watch(1, "table 0\n")}
	n := netOf(t, l...)
	for i := range l {
		if l[i].Kind != api.HEdit {
			l[i].Edit = wrong
		}
		if l[i].Kind != api.HView {
			l[i].Text = "x"
		}
		if l[i].Kind != api.HTake {
			l[i].N = far
		}
		if l[i].Kind != api.HSend && l[i].Kind != api.HDiff {
			l[i].B = far
		}
		if l[i].Kind == api.HTake {
			l[i].A = far
		}
	}
	alike(t, netOf(t, l...), n)
}

// busy: a net with edits, packets and views.
func busy(t *testing.T) *Net {
	t.Helper()
	return netOf(t,
		put(0, 0, 3, 1, 7), put(0, 1, 4, 0, 8), put(1, 0, 3, 1, 9), put(2, 1, 5, 2, 1),
		send(0, 1), diff(1, 2), take(1), put(1, 0, 6, 0, 2), put(1, 0, 7, 0, 2), diff(1, 3), take(2), send(2, 0), take(3),
		watch(0, "table 0\n"), watch(0, "table 1\n"), watch(3, "table 0\ncount 0 1\n"))
}

// P20, P2: wrong happenings, by their errors; none changes the net.
func TestWrong(t *testing.T) {
	n, left := busy(t), busy(t)
	for _, kind := range []int{math.MinInt, -1, 0, 6, 7, math.MaxInt} {
		fails(t, n, api.ErrArg, api.Happens{Kind: kind}, api.Happens{Kind: kind, A: 9, B: 9, N: 9, Text: "x"})
	}
	for _, i := range wild() {
		fails(t, n, api.ErrNone, put(i, 0, 3, 1, 7), put(i, 2, 50, 3, 1001), del(i, 0, 9), send(i, 0), send(0, i), send(i, i),
			diff(i, 0), diff(0, i), diff(i, i), take(i), watch(i, "table 0\n"), watch(i, "x"))
	}
	fails(t, n, api.ErrArg, put(0, 2, 3, 1, 7), put(0, -1, 3, 1, 7), put(1, 0, 50, 1, 7), put(2, 0, 3, 3, 7), put(3, 0, 3, 0, 1001),
		del(3, 0, 50), del(3, 2, 3), api.Happens{Kind: api.HEdit, Edit: api.Edit{Kind: 3}}, api.Happens{Kind: api.HEdit})
	fails(t, n, api.ErrNone, del(0, 0, 4), del(2, 1, 3), take(n.Packets()), take(-1))
	fails(t, n, api.ErrSyntax, watch(0, "x"), watch(1, "table 0"), watch(2, "table 0\nwhere 0 1 ? 3\n"))
	alike(t, n, left)
}

// P20: a packet has what its node had when it was sent, and comes to the one whom it is for.
func TestSend(t *testing.T) {
	for _, way := range []func(a, b int) api.Happens{send, diff} {
		n := netOf(t, put(0, 0, 3, 0, 4), put(0, 1, 5, 1, 6), way(0, 1), put(0, 0, 3, 0, 5), way(0, 2))
		isEmpty(t, n, 1, 2, 3)
		if n.Packets() != 2 {
			t.Error(n.Packets())
		}
		happen(t, n, take(0))
		early := tableOf([api.Nodes]int{1}, cell(0, 1, 3, 0, 4))
		late := tableOf([api.Nodes]int{2}, cell(0, 2, 3, 0, 5))
		second := tableOf([api.Nodes]int{1}, cell(0, 1, 5, 1, 6))
		has(t, n, 1, 0, early)
		has(t, n, 1, 1, second)
		isEmpty(t, n, 2, 3)
		happen(t, n, take(1))
		has(t, n, 2, 0, late)
		has(t, n, 2, 1, second)
		has(t, n, 1, 0, early)
		isEmpty(t, n, 3)
		if n.Packets() != 2 {
			t.Error("a packet that came is gone", n.Packets())
		}
	}
}

// P20: packets come late, twice, in any order; an older one brings nothing back.
func TestOrders(t *testing.T) {
	want := tableOf([api.Nodes]int{3}, cell(0, 3, 4, 0, 1))
	for _, order := range [][]int{{0, 1, 2}, {2, 1, 0}, {1, 0, 2}, {2, 0, 1, 0, 2, 1}, {1, 1, 2, 2, 0, 0}} {
		n := netOf(t, put(0, 0, 3, 0, 4), send(0, 1), put(0, 0, 3, 0, 5), diff(0, 1), put(0, 0, 4, 0, 1), del(0, 0, 3), send(0, 1))
		for _, i := range order {
			happen(t, n, take(i))
		}
		has(t, n, 1, 0, want)
		isEmpty(t, n, 2, 3)
	}
}

// P20: a node may tell itself.
func TestSelf(t *testing.T) {
	n := netOf(t, put(2, 0, 3, 0, 4), send(2, 2), diff(2, 2), put(2, 0, 3, 0, 5), take(0), take(1))
	has(t, n, 2, 0, tableOf([api.Nodes]int{2: 2}, cell(2, 2, 3, 0, 5)))
	isEmpty(t, n, 0, 1, 3)
}

// P20: HDiff's packet is what B hasn't seen, HSend's is all.
func TestWhatIsSent(t *testing.T) {
	n := netOf(t, put(0, 0, 3, 0, 4), put(0, 1, 4, 0, 6), send(0, 1), take(0), put(0, 0, 5, 0, 6), put(1, 0, 9, 0, 9),
		send(0, 1), diff(0, 1))
	whole := tableOf([api.Nodes]int{2}, cell(0, 1, 3, 0, 4), cell(0, 2, 5, 0, 6))
	if x := n.packets[1]; x.to != 1 || !sameTable(x.packet.Tables[0], whole) {
		t.Error(x)
	}
	part := tableOf([api.Nodes]int{}, cell(0, 2, 5, 0, 6))
	part.Context.Cloud = []api.Dot{{Node: 0, Seq: 2}}
	if x := n.packets[2]; x.to != 1 || !sameTable(x.packet.Tables[0], part) || len(x.packet.Tables[1].Cells) > 0 {
		t.Error(x)
	}
}

// edits: so many of node 0, in one place of its first table.
func edits(t *testing.T, n *Net, many int) {
	t.Helper()
	for i := range many {
		happen(t, n, put(0, 0, 9, 0, i))
	}
}

// P20: HDiff has Since's error, and there is no packet then.
func TestDiffError(t *testing.T) {
	n := netOf(t, put(0, 0, 3, 0, 4), send(0, 1), take(0))
	edits(t, n, 400)
	happen(t, n, diff(0, 1))
	edits(t, n, 1)
	// Without the dot that node 1 has seen, these would be 401 dots of a cloud.
	fails(t, n, api.ErrLarge, diff(0, 1))
	if n.Packets() != 2 {
		t.Error(n.Packets())
	}
	happen(t, n, diff(0, 2), send(0, 1), diff(1, 0), take(3))
	has(t, n, 1, 0, tableOf([api.Nodes]int{402}, cell(0, 1, 3, 0, 4), cell(0, 402, 9, 0, 0)))
	if n.Packets() != 5 {
		t.Error(n.Packets())
	}
}

// P20: there is room for 200 packets; a wrong node is told ahead of it.
func TestPacketsWithoutRoom(t *testing.T) {
	n := New()
	for i := range 200 {
		if n.Packets() != i {
			t.Fatal(i, n.Packets())
		}
		happen(t, n, put(0, 0, 3, 0, i), []api.Happens{send(0, i%4), diff(0, i%4)}[i/4%2])
	}
	fails(t, n, api.ErrLarge, send(0, 1), diff(0, 1), send(3, 3), diff(3, 0))
	fails(t, n, api.ErrNone, send(4, 0), diff(-1, 1), send(1, 4), diff(3, -1), take(200), take(math.MaxInt))
	if n.Packets() != 200 {
		t.Error(n.Packets())
	}
	isEmpty(t, n, 1, 2, 3)
	// Each is there still, as it was sent.
	for _, i := range []int{1, 2, 199, 118, 119, 197} {
		to := i % 4
		before, _ := n.Table(to, 0)
		happen(t, n, take(i))
		if to == 0 {
			continue
		}
		want := tableOf([api.Nodes]int{i + 1}, cell(0, i+1, 3, 0, i))
		if before.Context.Clock[0] > i {
			want = before
		}
		has(t, n, to, 0, want)
	}
	happen(t, n, put(1, 0, 3, 0, 7), watch(1, "table 0\n"))
	if e := n.Meet(); e != api.OK || n.Packets() != 200 {
		t.Error(e, n.Packets())
	}
}

// crowd: nodes that each wrote into all 150 places of their first tables.
func crowd(t *testing.T, ids ...int) *Net {
	t.Helper()
	n := New()
	for _, id := range ids {
		for i := range api.Keys * api.Cols {
			happen(t, n, put(id, 0, i/api.Cols, i%api.Cols, id))
		}
	}
	return n
}

// P20: HTake has Take's error, and changes nothing then.
func TestTakeError(t *testing.T) {
	n := crowd(t, 0, 1, 2)
	happen(t, n, put(2, 1, 3, 0, 4), send(0, 3), send(1, 3), diff(2, 3), take(0), take(1))
	before, _ := n.Table(3, 0)
	if len(before.Cells) != 300 {
		t.Fatal(before)
	}
	fails(t, n, api.ErrLarge, take(2), take(2))
	has(t, n, 3, 0, before)
	has(t, n, 3, 1, api.Table{})
	// With fewer rows there is room for it.
	for key := range 17 {
		happen(t, n, del(3, 0, key))
	}
	happen(t, n, take(2))
	has(t, n, 3, 1, tableOf([api.Nodes]int{2: 1}, cell(2, 1, 3, 0, 4)))
	if x, _ := n.Table(3, 0); len(x.Cells) != 300-17*6+150 || n.Packets() != 3 {
		t.Error(len(x.Cells), n.Packets())
	}
}

// P20, P21: a view is of node A, and turns with its edits and packets.
func TestViews(t *testing.T) {
	n := netOf(t, put(1, 0, 3, 0, 7), watch(0, "table 0\n"), watch(1, "table 0\ncount 0 1\n"), watch(1, "table 1\n"))
	tells(t, n, 0, 0)
	tells(t, n, 1, 0, item(1, 7, 1))
	tells(t, n, 1, 1)
	happen(t, n, put(1, 0, 4, 0, 7), put(1, 1, 5, 2, 6), send(1, 0))
	tells(t, n, 0, 0)
	tells(t, n, 1, 0, item(1, 7, 2))
	tells(t, n, 1, 1, item(1, 5, 0, 0, 6))
	happen(t, n, take(0))
	tells(t, n, 0, 0, item(1, 3, 7, 0, 0), item(1, 4, 7, 0, 0))
	happen(t, n, del(0, 0, 3), diff(0, 1), take(1))
	tells(t, n, 0, 0, item(1, 4, 7, 0, 0))
	tells(t, n, 1, 0, item(1, 7, 1))
	for _, x := range [][2]int{{0, 1}, {1, 2}, {2, 0}, {3, 0}, {0, -1}, {4, 0}, {-1, 0}} {
		if l, e := n.View(x[0], x[1]); l != nil || e != api.ErrNone {
			t.Error(x, l, e)
		}
	}
	for _, i := range wild() {
		for id := range api.Nodes {
			if l, e := n.View(id, i); l != nil || e != api.ErrNone {
				t.Error(id, i, l, e)
			}
			if l, e := n.View(i, id); l != nil || e != api.ErrNone {
				t.Error(i, id, l, e)
			}
		}
	}
}

// P20: HView's errors: of the node, of the text, of the views.
func TestViewErrors(t *testing.T) {
	n := New()
	long := strings.Repeat("table 0\n", 9)
	texts := map[string]api.Errno{
		"x":                        api.ErrSyntax,
		"table 0":                  api.ErrSyntax,
		"table 0\n\n":              api.ErrSyntax,
		long:                       api.ErrLarge,
		"":                         api.ErrArg,
		"table 0\ntable 2\n":       api.ErrArg,
		strings.Repeat("x", 1025):  api.ErrLarge,
		"table 0\ndistinct 1\n":    api.ErrArg,
		"table 0\npick 0 1,2,9\n":  api.ErrArg,
		"table 0\nunion 0 0\nx \n": api.ErrSyntax,
	}
	for id := range 3 {
		for range 4 {
			wrongTexts(t, n, id, texts)
			happen(t, n, watch(id, "table 0\n"))
		}
		wrongTexts(t, n, id, texts)
		fails(t, n, api.ErrLarge, watch(id, "table 0\n"))
		tells(t, n, id, 3)
		if l, e := n.View(id, 4); l != nil || e != api.ErrNone {
			t.Error(l, e)
		}
	}
	if l, e := n.View(3, 0); l != nil || e != api.ErrNone {
		t.Error(l, e)
	}
}

// wrongTexts: each has its error, of node id, and ErrNone of no node.
func wrongTexts(t *testing.T, n *Net, id int, texts map[string]api.Errno) {
	t.Helper()
	for s, want := range texts {
		fails(t, n, want, watch(id, s))
		fails(t, n, api.ErrNone, watch(4, s), watch(-1, s))
	}
}

// P21: a view tells its query's error of the tables as they are.
func TestViewHasError(t *testing.T) {
	n := crowd(t, 0)
	happen(t, n, watch(0, "table 0\njoin 0 0 1 1\n"), watch(0, "table 0\ncount 0 1\n"))
	if l, e := n.View(0, 0); l != nil || e != api.ErrLarge {
		t.Error(l, e)
	}
	tells(t, n, 0, 1, item(1, 0, 50))
}

// P21: there are tables 0 and 1 of nodes 0 to 3.
func TestNoTable(t *testing.T) {
	n := busy(t)
	for _, i := range append(wild(), 2, 3) {
		for j := range api.Nodes {
			if x, e := n.Table(j, i); e != api.ErrNone || !sameTable(x, api.Table{}) {
				t.Error(j, i, x, e)
			}
		}
	}
	for _, i := range wild() {
		for j := range api.Tables {
			if x, e := n.Table(i, j); e != api.ErrNone || !sameTable(x, api.Table{}) {
				t.Error(i, j, x, e)
			}
		}
	}
}

// P21: behind Meet all have the same, and the views tell it; no packet is sent by it.
func TestMeet(t *testing.T) {
	n := netOf(t, watch(0, "table 0\n"), watch(3, "table 1\n"), put(1, 0, 8, 2, 1), send(1, 2))
	for id := range api.Nodes {
		happen(t, n, put(id, 0, 3, 0, id), put(id, 1, id, 1, 7))
	}
	for range 2 {
		if e := n.Meet(); e != api.OK {
			t.Fatal(e)
		}
		for id := range api.Nodes {
			has(t, n, id, 0, tableOf([api.Nodes]int{1, 2, 1, 1}, cell(0, 1, 3, 0, 0), cell(1, 1, 8, 2, 1), cell(1, 2, 3, 0, 1),
				cell(2, 1, 3, 0, 2), cell(3, 1, 3, 0, 3)))
			has(t, n, id, 1, tableOf([api.Nodes]int{1, 1, 1, 1}, cell(0, 1, 0, 1, 7), cell(1, 1, 1, 1, 7), cell(2, 1, 2, 1, 7),
				cell(3, 1, 3, 1, 7)))
		}
		tells(t, n, 0, 0, item(1, 3, 3, 0, 0), item(1, 8, 0, 0, 1))
		tells(t, n, 3, 0, item(1, 0, 0, 7, 0), item(1, 1, 0, 7, 0), item(1, 2, 0, 7, 0), item(1, 3, 0, 7, 0))
		if n.Packets() != 1 {
			t.Error(n.Packets())
		}
	}
}

// P21: who writes a value while others delete the row keeps it.
func TestWriteWhileDeleted(t *testing.T) {
	n := netOf(t, put(3, 0, 3, 0, 4), put(3, 0, 3, 1, 5))
	n.Meet()
	happen(t, n, del(0, 0, 3), put(1, 0, 3, 1, 6), del(2, 0, 3))
	if e := n.Meet(); e != api.OK {
		t.Fatal(e)
	}
	for id := range api.Nodes {
		has(t, n, id, 0, tableOf([api.Nodes]int{0, 1, 0, 2}, cell(1, 1, 3, 1, 6)))
	}
}

// P21: the first error of a Take ends Meet; who has heard something by then has it.
func TestMeetError(t *testing.T) {
	n := crowd(t, 0, 1, 2)
	happen(t, n, put(3, 1, 3, 0, 4))
	if e := n.Meet(); e != api.ErrLarge {
		t.Fatal(e)
	}
	// Node 0 told all others, node 1 told node 0; node 2, with 300 cells, had no room for node 1's 150.
	for id, clock := range [][api.Nodes]int{{150, 150}, {150, 150}, {150, 0, 150}, {150}} {
		x, e := n.Table(id, 0)
		if e != api.OK || x.Context.Clock != clock || len(x.Cells) != sum(clock) {
			t.Error(id, x.Context, len(x.Cells), e)
		}
	}
	isNews := func(id int) bool {
		x, _ := n.Table(id, 1)
		return len(table.Keys(x)) > 0
	}
	if isNews(0) || isNews(1) || isNews(2) || !isNews(3) {
		t.Error("node 3 was asked")
	}
	if e := n.Meet(); e != api.ErrLarge {
		t.Error(e)
	}
}

// sum of a clock.
func sum(clock [api.Nodes]int) int {
	total := 0
	for _, x := range clock {
		total += x
	}
	return total
}

// P21: Meet at the edge: as many cells as a table has room for.
func TestMeetEdge(t *testing.T) {
	n := crowd(t, 0, 1)
	for i := range 100 {
		happen(t, n, put(3, 0, i/api.Cols, i%api.Cols, 5))
	}
	if e := n.Meet(); e != api.OK {
		t.Fatal(e)
	}
	for id := range api.Nodes {
		if x, e := n.Table(id, 0); e != api.OK || len(x.Cells) != api.MaxDots {
			t.Error(id, len(x.Cells), e)
		}
	}
	fresh := crowd(t, 0, 1)
	for i := range 101 {
		happen(t, fresh, put(3, 0, i/api.Cols, i%api.Cols, 5))
	}
	if e := fresh.Meet(); e != api.ErrLarge {
		t.Error(e)
	}
}

// P1: a net that New didn't make answers, too.
func TestZero(t *testing.T) {
	var n Net
	for _, x := range []api.Happens{put(3, 0, 3, 1, 7), send(3, 1), diff(3, 0), take(0), take(1), watch(2, "table 0\n"), {}} {
		n.Do(x)
	}
	n.Meet()
	n.Table(3, 1)
	n.View(2, 0)
	if n.Packets() != 2 {
		t.Error(n.Packets())
	}
}
