package node

import (
	"math"
	"slices"
	"testing"

	"viewmere/api"
	"viewmere/table"
)

// put: the edit that writes a value into a table.
func put(i, key, col, value int) api.Edit {
	return api.Edit{Kind: api.EPut, Table: i, Key: key, Col: col, Value: value}
}

// del: the edit that deletes a row of a table.
func del(i, key int) api.Edit { return api.Edit{Kind: api.EDel, Table: i, Key: key} }

// cell: of a node's edit.
func cell(node, seq, key, col, value int) api.Cell {
	return api.Cell{Dot: api.Dot{Node: node, Seq: seq}, Key: key, Col: col, Value: value}
}

// tableOf clocks and cells.
func tableOf(clock [api.Nodes]int, cells ...api.Cell) api.Table {
	return api.Table{Context: api.Context{Clock: clock}, Cells: cells}
}

// packetOf both tables.
func packetOf(a, b api.Table) api.Packet { return api.Packet{Tables: [api.Tables]api.Table{a, b}} }

// nodeOf a number, behind some edits that are all right.
func nodeOf(t *testing.T, id int, edits ...api.Edit) *Node {
	t.Helper()
	n, e := New(id)
	if e != api.OK {
		t.Fatal(id, e)
	}
	for _, x := range edits {
		if e := n.Do(x); e != api.OK {
			t.Fatal(x, e)
		}
	}
	return n
}

// nodeWith: node 0 behind a packet.
func nodeWith(t *testing.T, p api.Packet) *Node {
	t.Helper()
	n := nodeOf(t, 0)
	takeAll(t, n, p)
	return n
}

// takeAll: a node takes packets that are all right.
func takeAll(t *testing.T, n *Node, packets ...api.Packet) {
	t.Helper()
	for _, p := range packets {
		if e := n.Take(p); e != api.OK {
			t.Fatal(p, e)
		}
	}
}

// sameContext: are two contexts the same, an empty list being as good as none?
func sameContext(a, b api.Context) bool {
	return a.Clock == b.Clock && slices.Equal(a.Cloud, b.Cloud)
}

// sameTable: are two tables the same, an empty list being as good as none?
func sameTable(a, b api.Table) bool {
	return sameContext(a.Context, b.Context) && slices.Equal(a.Cells, b.Cells)
}

// samePacket: are both tables the same?
func samePacket(a, b api.Packet) bool {
	return sameTable(a.Tables[0], b.Tables[0]) && sameTable(a.Tables[1], b.Tables[1])
}

// isEmpty: has a packet nothing at all?
func isEmpty(p api.Packet) bool {
	return samePacket(p, api.Packet{})
}

// has: the node's tables are these, by Whole and by Seen.
func has(t *testing.T, n *Node, a, b api.Table) {
	t.Helper()
	if p := n.Whole(); !samePacket(p, packetOf(a, b)) {
		t.Error(p, a, b)
	}
	if l := n.Seen(); !sameContext(l[0], a.Context) || !sameContext(l[1], b.Context) {
		t.Error(l, a.Context, b.Context)
	}
}

// fullTable: as many cells as there may be, of a node's edits, eight a key, but none of column 2.
func fullTable(node int) api.Table {
	t := tableOf([api.Nodes]int{})
	t.Context.Clock[node] = api.MaxDots
	for i := range api.MaxDots {
		t.Cells = append(t.Cells, cell(node, i+1, i%api.Keys, i%2, i))
	}
	return t
}

// gaps: a context with every second dot of a node, so many of them.
func gaps(node, n int) api.Context {
	var c api.Context
	for i := range n {
		c.Cloud = append(c.Cloud, api.Dot{Node: node, Seq: 2*i + 2})
	}
	return c
}

// P18: there are nodes 0 to 3, and each is empty at first.
func TestNew(t *testing.T) {
	for _, id := range []int{math.MinInt, -4, -1, 4, 5, 1 << 32, math.MaxInt} {
		if n, e := New(id); n != nil || e != api.ErrArg {
			t.Error(id, n, e)
		}
	}
	for id := range api.Nodes {
		n, e := New(id)
		if e != api.OK || n.Views() != 0 {
			t.Fatal(id, e)
		}
		has(t, n, api.Table{}, api.Table{})
	}
}

// P18: an edit is of the node's own number, and of the table that it names.
func TestEdits(t *testing.T) {
	for id := range api.Nodes {
		n := nodeOf(t, id, put(0, 3, 1, 7), put(1, 49, 2, -1000), put(0, 3, 2, 1000))
		var one, two [api.Nodes]int
		one[id], two[id] = 2, 1
		has(t, n, tableOf(one, cell(id, 1, 3, 1, 7), cell(id, 2, 3, 2, 1000)), tableOf(two, cell(id, 1, 49, 2, -1000)))
	}
}

// P18: a value that is written takes the place of those that were seen, and a deleted row is gone.
func TestWritingAndDeleting(t *testing.T) {
	n := nodeOf(t, 2, put(1, 3, 1, 7), put(1, 3, 1, 8), put(1, 3, 0, 9), put(1, 4, 0, 9))
	has(t, n, api.Table{}, tableOf([api.Nodes]int{2: 4}, cell(2, 2, 3, 1, 8), cell(2, 3, 3, 0, 9), cell(2, 4, 4, 0, 9)))
	if e := n.Do(del(0, 3)); e != api.ErrNone {
		t.Error(e)
	}
	if e := n.Do(del(1, 3)); e != api.OK {
		t.Error(e)
	}
	has(t, n, api.Table{}, tableOf([api.Nodes]int{2: 4}, cell(2, 4, 4, 0, 9)))
	// What EDel has no use for is not looked at.
	if e := n.Do(api.Edit{Kind: api.EDel, Table: 1, Key: 4, Col: -1, Value: math.MaxInt}); e != api.OK {
		t.Error(e)
	}
	has(t, n, api.Table{}, tableOf([api.Nodes]int{2: 4}))
}

// P18: wrong edits, by their errors; none changes the node.
func TestWrongEdits(t *testing.T) {
	large, small := math.MaxInt, math.MinInt
	n := nodeOf(t, 1, put(0, 3, 1, 7), put(1, 4, 1, 8))
	had := n.Whole()
	for _, x := range []struct {
		edit api.Edit
		want api.Errno
	}{
		{api.Edit{}, api.ErrArg},
		{api.Edit{Kind: 3, Key: 3}, api.ErrArg},
		{api.Edit{Kind: -1, Key: 3}, api.ErrArg},
		{api.Edit{Kind: small, Key: 3}, api.ErrArg},
		{api.Edit{Kind: large, Key: 3}, api.ErrArg},
		{put(2, 3, 1, 7), api.ErrArg},
		{put(-1, 3, 1, 7), api.ErrArg},
		{del(2, 3), api.ErrArg},
		{del(-1, 3), api.ErrArg},
		{del(small, 9), api.ErrArg},
		{del(large, 9), api.ErrArg},
		{put(0, -1, 1, 7), api.ErrArg},
		{put(0, 50, 1, 7), api.ErrArg},
		{put(1, 3, -1, 7), api.ErrArg},
		{put(1, 3, 3, 7), api.ErrArg},
		{put(0, 3, 1, -1001), api.ErrArg},
		{put(0, 3, 1, 1001), api.ErrArg},
		{put(0, large, small, large), api.ErrArg},
		{del(0, -1), api.ErrArg},
		{del(0, 50), api.ErrArg},
		{del(1, small), api.ErrArg},
		{del(0, 4), api.ErrNone},
		{del(1, 3), api.ErrNone},
	} {
		if e := n.Do(x.edit); e != x.want {
			t.Error(x.edit, e, x.want)
		}
		if !samePacket(n.Whole(), had) {
			t.Fatal(x.edit, n.Whole())
		}
	}
}

// P18: edits that a table has no room for, by dot.Next's, table.Put's and table.Merge's errors.
func TestEditsWithoutRoom(t *testing.T) {
	last := tableOf([api.Nodes]int{api.MaxSeq, 0, 0, api.MaxSeq - 1})
	for i, x := range []struct {
		table api.Table
		edit  api.Edit
		want  api.Errno
	}{
		{last, put(0, 1, 1, 1), api.ErrLarge},
		{last, put(0, 1, 1, 1001), api.ErrArg},
		{fullTable(0), put(0, 0, 2, 1), api.ErrLarge},                      // the 401st cell
		{fullTable(0), put(0, 0, 0, 1), api.OK},                            // takes the place of others
		{fullTable(0), put(1, 0, 1, 1), api.OK},                            // the other table
		{fullTable(0), del(0, 0), api.OK},                                  // fewer
		{api.Table{Context: gaps(0, 400)}, put(0, 0, 0, 1), api.ErrLarge},  // the 401st dot of the cloud
		{api.Table{Context: gaps(0, 399)}, put(0, 0, 0, 1), api.OK},        // the 400th
		{api.Table{Context: gaps(1, 400)}, put(0, 0, 0, 1), api.OK},        // the clock has the dot
		{api.Table{Context: gaps(0, 400)}, put(0, 0, 0, 2000), api.ErrArg}, // ahead of Merge's error
	} {
		n := nodeWith(t, packetOf(x.table, api.Table{}))
		had := n.Whole()
		if e := n.Do(x.edit); e != x.want {
			t.Error(i, e, x.want)
		}
		if changed := !samePacket(n.Whole(), had); changed != (x.want == api.OK) {
			t.Error(i, "changed", changed)
		}
	}
	n, e := New(3)
	if e != api.OK || n.Take(packetOf(last, last)) != api.OK {
		t.Fatal(e)
	}
	for _, want := range []api.Errno{api.OK, api.ErrLarge} {
		if e := n.Do(put(1, 1, 1, 1)); e != want {
			t.Error(e, want)
		}
	}
	has(t, n, last, tableOf([api.Nodes]int{api.MaxSeq, 0, 0, api.MaxSeq}, cell(3, api.MaxSeq, 1, 1, 1)))
}

// P18: who takes a packet has both tables merged, however often it comes.
func TestTake(t *testing.T) {
	a := nodeOf(t, 0, put(0, 3, 1, 7), put(1, 5, 0, 1))
	b := nodeOf(t, 1, put(0, 3, 1, 8), put(1, 6, 2, 2))
	for range 3 {
		takeAll(t, a, b.Whole(), a.Whole(), api.Packet{})
	}
	clock := [api.Nodes]int{1, 1}
	has(t, a, tableOf(clock, cell(0, 1, 3, 1, 7), cell(1, 1, 3, 1, 8)), tableOf(clock, cell(0, 1, 5, 0, 1), cell(1, 1, 6, 2, 2)))
	has(t, b, tableOf([api.Nodes]int{1: 1}, cell(1, 1, 3, 1, 8)), tableOf([api.Nodes]int{1: 1}, cell(1, 1, 6, 2, 2)))
	takeAll(t, b, a.Whole())
	if !samePacket(a.Whole(), b.Whole()) {
		t.Error(a.Whole(), b.Whole())
	}
}

// P18: who writes a value while others delete the row keeps it.
func TestWriteWhileDeleted(t *testing.T) {
	a := nodeOf(t, 0, put(0, 3, 1, 7), put(0, 3, 2, 6))
	b := nodeOf(t, 1)
	takeAll(t, b, a.Whole())
	for n, x := range map[*Node]api.Edit{a: put(0, 3, 1, 9), b: del(0, 3)} {
		if e := n.Do(x); e != api.OK {
			t.Fatal(x, e)
		}
	}
	late := a.Whole()
	takeAll(t, a, b.Whole())
	takeAll(t, b, late)
	for _, n := range []*Node{a, b} {
		has(t, n, tableOf([api.Nodes]int{3}, cell(0, 3, 3, 1, 9)), api.Table{})
	}
}

// P18: packets that can't be taken, by table.Merge's errors, of the first tables ahead of the second
// ones; none changes the node.
func TestWrongPackets(t *testing.T) {
	right := tableOf([api.Nodes]int{1: 1}, cell(1, 1, 9, 0, 9))
	wrong := map[api.Errno]api.Table{
		api.ErrArg:   tableOf([api.Nodes]int{-1}),
		api.ErrLarge: {Context: gaps(1, 401)},
		api.ErrForm:  tableOf([api.Nodes]int{0, 1}, cell(1, 2, 9, 0, 9)),
	}
	packets := map[api.Errno][]api.Packet{}
	for e, one := range wrong {
		packets[e] = append(packets[e], packetOf(one, right), packetOf(right, one))
		for _, other := range wrong {
			packets[e] = append(packets[e], packetOf(one, other))
		}
	}
	// Right ones that don't go together with what the node has: another cell by the same dot, too many
	// cells, and too many dots.
	other := tableOf([api.Nodes]int{1}, cell(0, 1, 3, 1, 8))
	packets[api.ErrForm] = append(packets[api.ErrForm], packetOf(other, right), packetOf(right, other), packetOf(other, fullTable(2)))
	for _, much := range []api.Table{fullTable(2), {Context: gaps(2, 400)}} {
		packets[api.ErrLarge] = append(packets[api.ErrLarge], packetOf(much, right), packetOf(right, much), packetOf(much, other))
	}
	mine := tableOf([api.Nodes]int{1}, cell(0, 1, 3, 1, 7))
	mine.Context.Cloud = []api.Dot{{Node: 3, Seq: 5}}
	n := nodeWith(t, packetOf(mine, mine))
	watchTexts(t, n, "table 0\n", "table 1\n")
	for want, l := range packets {
		for _, p := range l {
			if e := n.Take(p); e != want {
				t.Error(p, e, want)
			}
			has(t, n, mine, mine)
			for i := range 2 {
				tells(t, n, i, items{item(1, 3, 0, 7, 0)})
			}
		}
	}
}

// P18: the edges at which a packet can be taken yet.
func TestEdgesOfPackets(t *testing.T) {
	n := nodeWith(t, packetOf(fullTable(0), api.Table{Context: gaps(1, 400)}))
	takeAll(t, n, packetOf(fullTable(0), api.Table{Context: gaps(1, 400)}))
	has(t, n, fullTable(0), api.Table{Context: gaps(1, 400)})
	end := tableOf([api.Nodes]int{api.MaxSeq, api.MaxSeq, api.MaxSeq, api.MaxSeq}, cell(3, api.MaxSeq, 49, 2, -1000))
	takeAll(t, n, packetOf(end, end))
	// Who has seen all of these, and has none of them, takes them away.
	has(t, n, end, end)
}

// P18: what another one hasn't seen, by table.Since, is as good as all.
func TestSince(t *testing.T) {
	a := nodeOf(t, 0, put(0, 3, 1, 7), put(0, 4, 1, 8), put(1, 5, 1, 9))
	b := nodeOf(t, 1, put(1, 6, 0, 1))
	takeAll(t, b, a.Whole())
	for _, x := range []api.Edit{put(0, 5, 0, 4), del(0, 3), put(1, 5, 1, 10)} {
		if e := a.Do(x); e != api.OK {
			t.Fatal(x, e)
		}
	}
	p, e := a.Since(b.Seen())
	want := packetOf(tableOf([api.Nodes]int{1}, cell(0, 3, 5, 0, 4)), tableOf([api.Nodes]int{2}, cell(0, 2, 5, 1, 10)))
	want.Tables[0].Context.Cloud = []api.Dot{{Node: 0, Seq: 3}}
	if e != api.OK || !samePacket(p, want) {
		t.Error(p, e)
	}
	all := nodeOf(t, 2)
	takeAll(t, all, b.Whole(), a.Whole())
	takeAll(t, b, p)
	if !samePacket(all.Whole(), b.Whole()) {
		t.Error(all.Whole(), b.Whole())
	}
	if p, e := a.Since([api.Tables]api.Context{}); e != api.OK || !samePacket(p, a.Whole()) {
		t.Error(p, e)
	}
}

// P18: each table is held against its own context.
func TestSinceByTable(t *testing.T) {
	n := nodeOf(t, 3, put(0, 3, 1, 7), put(1, 4, 1, 8))
	seen := n.Seen()
	for i := range seen {
		l := seen
		l[i] = api.Context{}
		p, e := n.Since(l)
		if e != api.OK || !sameTable(p.Tables[i], n.Whole().Tables[i]) || !sameTable(p.Tables[1-i], api.Table{}) {
			t.Error(i, p, e)
		}
	}
}

// P18: Since has table.Since's errors, of the first table ahead of the second one.
func TestSinceErrors(t *testing.T) {
	right := api.Context{Clock: [api.Nodes]int{1}}
	wrong := map[api.Errno]api.Context{
		api.ErrArg:   {Clock: [api.Nodes]int{0, 0, 0, api.MaxSeq + 1}},
		api.ErrLarge: gaps(1, 401),
		api.ErrForm:  {Cloud: []api.Dot{{Node: 0, Seq: 1}}},
	}
	n := nodeOf(t, 0, put(0, 3, 1, 7), put(1, 3, 1, 7))
	had := n.Whole()
	for want, one := range wrong {
		l := [][api.Tables]api.Context{{one, right}, {right, one}}
		for _, other := range wrong {
			l = append(l, [api.Tables]api.Context{one, other})
		}
		for _, x := range l {
			if p, e := n.Since(x); e != want || !isEmpty(p) {
				t.Error(x, p, e, want)
			}
		}
	}
	if !samePacket(n.Whole(), had) {
		t.Error(n.Whole())
	}
	// What is left of the clock behind the first cell that is known would be 401 dots of a cloud, or 400.
	for _, x := range []struct {
		clock int
		want  api.Errno
	}{{402, api.ErrLarge}, {401, api.OK}} {
		long := tableOf([api.Nodes]int{x.clock}, cell(0, 1, 3, 1, 7))
		for i, p := range []api.Packet{packetOf(long, api.Table{}), packetOf(api.Table{}, long)} {
			told, e := nodeWith(t, p).Since([api.Tables]api.Context{right, right})
			if e != x.want || isEmpty(told) != (e != api.OK) {
				t.Error(i, x.clock, told, e)
			}
		}
	}
}

// P18: a node behind all kinds of edits and packets has tables that have no error.
func TestTablesAreRight(t *testing.T) {
	n := nodeWith(t, packetOf(fullTable(1), api.Table{Context: gaps(0, 399)}))
	for key := range api.Keys {
		n.Do(del(0, key))
		n.Do(put(key%api.Tables, key, 1, key))
		for i, x := range n.Whole().Tables {
			if e := table.Check(x); e != api.OK {
				t.Fatal(key, i, e)
			}
		}
	}
}

// P1: a node that New didn't make is node 0, without edits and views.
func TestNodeOfItsOwn(t *testing.T) {
	var n Node
	has(t, &n, api.Table{}, api.Table{})
	if e := n.Do(put(0, 3, 1, 7)); e != api.OK || n.Views() != 0 {
		t.Error(e)
	}
	has(t, &n, tableOf([api.Nodes]int{1}, cell(0, 1, 3, 1, 7)), api.Table{})
}
