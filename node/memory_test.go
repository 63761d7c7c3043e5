package node

import (
	"testing"

	"viewmere/api"
	"viewmere/query"
)

// roomyContext: the same context, with room behind its cloud.
func roomyContext(c api.Context) api.Context {
	c.Cloud = append(make([]api.Dot, 0, len(c.Cloud)+3), c.Cloud...)
	return c
}

// roomy: the same packet, with room behind each list.
func roomy(p api.Packet) api.Packet {
	for i, t := range p.Tables {
		cells := append(make([]api.Cell, 0, len(t.Cells)+3), t.Cells...)
		p.Tables[i] = api.Table{Context: roomyContext(t.Context), Cells: cells}
	}
	return p
}

// roomySteps: the same steps, with room behind the query and behind each list.
func roomySteps(q []api.Step) []api.Step {
	copied := make([]api.Step, 0, len(q)+2)
	for _, s := range q {
		s.List = append(make([]int, 0, len(s.List)+3), s.List...)
		copied = append(copied, s)
	}
	return copied
}

// fill: writes over a list, and the room behind it.
func fill[T any](l []T, x T) {
	l = l[:cap(l)]
	for i := range l {
		l[i] = x
	}
}

// roomIsFree: has the room behind a list nothing in it?
func roomIsFree[T comparable](l []T) bool {
	var none T
	for _, x := range l[len(l):cap(l)] {
		if x != none {
			return false
		}
	}
	return true
}

// scrawlContext: writes over a context's cloud.
func scrawlContext(c api.Context) { fill(c.Cloud, api.Dot{Node: -9, Seq: -9}) }

// scrawlPacket: writes over a packet's lists.
func scrawlPacket(p api.Packet) {
	for _, t := range p.Tables {
		scrawlContext(t.Context)
		fill(t.Cells, cell(-9, -9, -9, -9, -9))
	}
}

// scrawlSteps: writes over a query and its lists.
func scrawlSteps(q []api.Step) {
	for i := range q {
		fill(q[i].List, -9)
	}
	fill(q, api.Step{Kind: -9})
}

// scrawlItems: writes over a list of items and its rows.
func scrawlItems(l []api.Item) {
	for i := range l {
		fill(l[i].Row, -9)
	}
	fill(l, item(-9, -9))
}

// unchanged: has a packet made by roomy all that it had, and its room nothing?
func unchanged(p, want api.Packet) bool {
	for _, t := range p.Tables {
		if !roomIsFree(t.Context.Cloud) || !roomIsFree(t.Cells) {
			return false
		}
	}
	return samePacket(p, want)
}

// busy: a node with clouds and cells in both tables, and views.
func busy(t *testing.T) *Node {
	t.Helper()
	n := nodeOf(t, 0, put(0, 3, 1, 7), put(0, 4, 0, 7), put(1, 3, 2, 5), put(1, 5, 0, 3))
	takeAll(t, n, news(0))
	watchTexts(t, n, "table 0\n", "table 0\ntable 1\nunion 0 1\npick 2 1,2\n", "table 0\njoin 0 0 1 1\n")
	return n
}

// news: a packet with clouds and cells in both tables, another one by each number.
func news(i int) api.Packet {
	far := api.Dot{Node: 2, Seq: 10 + 2*i}
	p := packetOf(
		tableOf([api.Nodes]int{0, i}, api.Cell{Dot: far, Key: 8 + i, Col: 1, Value: i}),
		tableOf([api.Nodes]int{0, i}, api.Cell{Dot: far, Key: 9 + i, Col: 0, Value: -i}))
	for j := range p.Tables {
		p.Tables[j].Context.Cloud = []api.Dot{far, {Node: 3, Seq: 20 + 2*i}}
	}
	return p
}

// alike: have both nodes the same, and do their views tell the same?
func alike(t *testing.T, a, b *Node) {
	t.Helper()
	p := b.Whole()
	has(t, a, p.Tables[0], p.Tables[1])
	if a.Views() != b.Views() {
		t.Fatal(a.Views(), b.Views())
	}
	for i := range b.Views() {
		l, e := a.View(i)
		want, f := b.View(i)
		if e != f || !sameItems(l, want) {
			t.Error(i, l, e, want, f)
		}
	}
}

// P2: what is handed in is not changed and not kept: whatever is written over it, a node is as one whose
// arguments were left alone.
func TestHandedIn(t *testing.T) {
	n, alone := busy(t), busy(t)
	for i := range 4 {
		p := roomy(news(i))
		n.Take(p)
		takeAll(t, alone, news(i))
		if !unchanged(p, news(i)) {
			t.Error(i, "Take changes its packet", p)
		}
		scrawlPacket(p)
		alike(t, n, alone)
	}
	wrong := roomy(news(5))
	wrong.Tables[1].Cells[0].Key = 50
	if e := n.Take(wrong); e != api.ErrForm || wrong.Tables[1].Cells[0].Key != 50 {
		t.Error(e)
	}
	scrawlPacket(wrong)
	alike(t, n, alone)
}

// P2: likewise of the contexts of Since.
func TestHandedToSince(t *testing.T) {
	n, alone := busy(t), busy(t)
	seen := [api.Tables]api.Context{roomyContext(news(0).Tables[0].Context), roomyContext(news(1).Tables[1].Context)}
	p, e := n.Since(seen)
	for i, c := range seen {
		if !roomIsFree(c.Cloud) || !sameContext(c, news(i).Tables[i].Context) {
			t.Error(i, "Since changes its contexts", c)
		}
	}
	want, f := alone.Since(seen)
	for _, c := range seen {
		scrawlContext(c)
	}
	if e != f || !samePacket(p, want) {
		t.Error(p, e, want, f)
	}
	alike(t, n, alone)
}

// P2: likewise of the steps of Watch.
func TestHandedToWatch(t *testing.T) {
	const text = "table 0\ntable 1\npick 0 1,2\npick 1 2,1\nminus 2 3\n"
	n, alone := busy(t), busy(t)
	q := roomySteps(steps(t, text))
	if e := n.Watch(q); e != api.OK {
		t.Fatal(e)
	}
	watchTexts(t, alone, text)
	if s, e := query.Print(q); e != api.OK || s != text || q[:cap(q)][len(q)].Kind != 0 {
		t.Error("Watch changes its query", q)
	}
	for _, s := range q {
		if !roomIsFree(s.List) {
			t.Error("Watch changes the room of a list", s)
		}
	}
	scrawlSteps(q)
	alike(t, n, alone)
	does(t, n, put(0, 3, 1, 9))
	does(t, alone, put(0, 3, 1, 9))
	alike(t, n, alone)
}

// P2: what is told is new memory: whatever is written over it, the node stays as it was.
func TestTold(t *testing.T) {
	n, alone := busy(t), busy(t)
	for i := range 3 {
		scrawlPacket(n.Whole())
		alike(t, n, alone)
		for _, c := range n.Seen() {
			scrawlContext(c)
		}
		alike(t, n, alone)
		for _, l := range [][api.Tables]api.Context{{}, alone.Seen()} {
			p, _ := n.Since(l)
			scrawlPacket(p)
			alike(t, n, alone)
		}
		for j := range n.Views() {
			l, _ := n.View(j)
			scrawlItems(l)
			alike(t, n, alone)
		}
		does(t, n, put(0, i, 1, i), del(1, 3), put(1, 3, 1, 2))
		does(t, alone, put(0, i, 1, i), del(1, 3), put(1, 3, 1, 2))
		alike(t, n, alone)
	}
}

// P2: an answer stays as it was told, whatever the node does later on.
func TestToldEarlier(t *testing.T) {
	n := busy(t)
	p, seen := n.Whole(), n.Seen()
	since, _ := n.Since([api.Tables]api.Context{})
	rows, _ := n.View(0)
	want, wantSince := copyOf(p), copyOf(since)
	does(t, n, put(0, 3, 1, 8), del(0, 4), put(1, 3, 2, 6))
	takeAll(t, n, news(1), news(2))
	if !samePacket(p, want) || !samePacket(since, wantSince) {
		t.Error(p, since)
	}
	for i, c := range seen {
		if !sameContext(c, want.Tables[i].Context) {
			t.Error(i, c)
		}
	}
	if !sameItems(rows, items{item(1, 3, 0, 7, 0), item(1, 4, 7, 0, 0), item(1, 8, 0, 0, 0)}) {
		t.Error(rows)
	}
}

// P2: the lists of one answer share nothing with one another.
func TestListsApart(t *testing.T) {
	n := busy(t)
	p := n.Whole()
	p.Tables[0].Context.Cloud[0].Seq = -1
	p.Tables[0].Cells[0].Key = -1
	if sameTable(p.Tables[0], n.Whole().Tables[0]) || !sameTable(p.Tables[1], n.Whole().Tables[1]) {
		t.Error(p)
	}
	seen := n.Seen()
	scrawlContext(seen[0])
	if !sameContext(seen[1], n.Seen()[1]) {
		t.Error(seen)
	}
	for i := range n.Views() {
		l, _ := n.View(i)
		want, _ := n.View(i)
		for j := range l {
			fill(l[j].Row, -9)
			copy(l[j].Row, want[j].Row)
			if !sameItems(l, want) {
				t.Fatal(i, "row", j, "shares with another one", l)
			}
		}
	}
}

// P2: nodes have nothing in common, of the same number, behind the same packets, or one copied from the
// other.
func TestNodesApart(t *testing.T) {
	p := news(0)
	one, two := nodeWith(t, p), nodeWith(t, p)
	watchTexts(t, one, "table 0\n")
	does(t, one, put(0, 3, 1, 7))
	has(t, two, p.Tables[0], p.Tables[1])
	if two.Views() != 0 {
		t.Error(two.Views())
	}
	n, alone := busy(t), busy(t)
	copied := *n
	does(t, &copied, put(0, 3, 1, 1), del(0, 4))
	watchTexts(t, &copied, "table 1\n")
	alike(t, n, alone)
	watchTexts(t, n, "table 0\ncount 0 1\n")
	does(t, n, del(0, 3), del(1, 3))
	tells(t, &copied, 3, items{item(1, 3, 0, 0, 5), item(1, 5, 3, 0, 0), item(1, 9, 0, 0, 0)})
	tells(t, &copied, 0, items{item(1, 3, 0, 1, 0), item(1, 8, 0, 0, 0)})
}
