package node

import (
	"math"
	"testing"

	"viewmere/api"
	"viewmere/dot"
	"viewmere/table"
)

// texts of queries: each kind of step, some that have errors of tables with many rows.
func texts() []string {
	const both = "table 0\ntable 1\n"
	return []string{
		"table 0\n",
		"table 1\n",
		both + "where 0 1 < 0\nwhere 1 2 = 1\nwhere 0 0 > 1\nunion 2 3\nunion 4 5\n",
		both + "pick 0 1\npick 1 3\nunion 2 3\n",
		both + "join 0 1 1 0\n",
		both + "join 0 1 2 2\ncount 2 3\n",
		"table 0\njoin 0 0 1 1\n",
		both + "union 0 1\nminus 2 1\nunion 3 3\n",
		both + "minus 0 1\ndistinct 2\nminus 3 0\n",
		both + "sum 0 1 2\nsum 1 3 3\nunion 2 3\n",
		"table 0\npick 0 1\njoin 1 1 0 0\npick 2 0\njoin 3 3 0 0\n",
	}
}

// dice: numbers that look thrown, the same ones at each run.
type dice uint64

// throw: one of n numbers, from 0 on.
func (d *dice) throw(n int) int {
	*d = *d*6364136223846793005 + 1442695040888963407
	return int(uint64(*d)>>33) % n
}

// edit: of the first keys; now and then a wrong one. Of many keys most rows have the same values, so
// that queries have errors of them.
func (d *dice) edit(keys int) api.Edit {
	x := api.Edit{Kind: 1 + d.throw(4)/3, Table: d.throw(2), Key: d.throw(keys), Col: d.throw(3), Value: d.throw(4) - 1}
	if keys > 20 && d.throw(12) > 0 {
		x.Value = 0
	}
	if d.throw(12) == 0 {
		wild := []int{math.MinInt, -1001, -1, 2, 3, 50, 1001, math.MaxInt}
		*[]*int{&x.Kind, &x.Table, &x.Key, &x.Col, &x.Value}[d.throw(5)] = wild[d.throw(len(wild))]
	}
	return x
}

// spoil: one number of one of a packet's tables becomes another one.
func (d *dice) spoil(p api.Packet) api.Packet {
	wild := []int{math.MinInt, -1, 0, 1, 2, 7, 49, api.MaxSeq, api.MaxSeq + 1, math.MaxInt}
	t := &p.Tables[d.throw(2)]
	places := []*int{&t.Context.Clock[d.throw(4)]}
	for i := range t.Cells {
		x := &t.Cells[i]
		places = append(places, &x.Dot.Node, &x.Dot.Seq, &x.Key, &x.Col, &x.Value)
	}
	*places[d.throw(len(places))] = wild[d.throw(len(wild))]
	return p
}

// mirror: a node, and beside it its number and its tables as P18 has them.
type mirror struct {
	*Node
	number int
	tables [api.Tables]api.Table
	asked  [][]api.Step
}

// wantDo: what P18 says of an edit.
func (m *mirror) wantDo(x api.Edit) api.Errno {
	if x.Kind != api.EPut && x.Kind != api.EDel || x.Table != 0 && x.Table != 1 {
		return api.ErrArg
	}
	t := m.tables[x.Table]
	edit, e := table.Del(t, x.Key)
	if x.Kind == api.EPut {
		edit, e = table.Put(t, m.number, x.Key, x.Col, x.Value)
	}
	if e != api.OK {
		return e
	}
	merged, e := table.Merge(t, edit)
	if e == api.OK {
		m.tables[x.Table] = merged
	}
	return e
}

// wantTake: what P18 says of a packet.
func (m *mirror) wantTake(p api.Packet) api.Errno {
	first, e := table.Merge(m.tables[0], p.Tables[0])
	if e != api.OK {
		return e
	}
	second, e := table.Merge(m.tables[1], p.Tables[1])
	if e != api.OK {
		return e
	}
	m.tables = [api.Tables]api.Table{first, second}
	return api.OK
}

// wantSince: what P18 says of what another one hasn't seen.
func (m *mirror) wantSince(l [api.Tables]api.Context) (api.Packet, api.Errno) {
	first, e := table.Since(m.tables[0], l[0])
	if e != api.OK {
		return api.Packet{}, e
	}
	second, e := table.Since(m.tables[1], l[1])
	if e != api.OK {
		return api.Packet{}, e
	}
	return packetOf(first, second), api.OK
}

// hold: the node is held against what it must be; how often views had an answer, and each error.
func (m *mirror) hold(t *testing.T, seen *[6]int) {
	t.Helper()
	has(t, m.Node, m.tables[0], m.tables[1])
	if m.Views() != len(m.asked) {
		t.Fatal(m.Views(), len(m.asked))
	}
	for i, q := range m.asked {
		want, e := evalOf(m.Node, q)
		l, f := m.View(i)
		if e != f || !sameItems(l, want) {
			t.Fatal(i, q, l, f, want, e)
		}
		seen[e]++
	}
}

// happen: one thing happens to a node: an edit, a packet, a view; what it sends goes to the packets.
func (d *dice) happen(t *testing.T, m, other *mirror, packets []api.Packet, keys int) []api.Packet {
	t.Helper()
	switch d.throw(9) {
	case 0:
		return append(packets, m.Whole())
	case 1:
		l := other.Seen()
		if d.throw(4) == 0 {
			l[d.throw(2)].Clock[d.throw(4)] = d.throw(3) - 1
		}
		p, e := m.Since(l)
		want, f := m.wantSince(l)
		if e != f || !samePacket(p, want) {
			t.Fatal(p, e, want, f)
		}
		return append(packets, p)
	case 2, 3:
		if len(packets) == 0 {
			return packets
		}
		p := copyOf(packets[d.throw(len(packets))])
		if d.throw(5) == 0 {
			p = d.spoil(p)
			// A clock far beyond the edits would leave the node nothing to do.
			if farBeyond(p) {
				return packets
			}
		}
		if want, e := m.wantTake(p), m.Take(p); e != want {
			t.Fatal(p, e, want)
		}
	case 4:
		l := texts()
		q := steps(t, l[d.throw(len(l))])
		want := api.OK
		if len(m.asked) == 4 {
			want = api.ErrLarge
		} else {
			m.asked = append(m.asked, q)
		}
		if e := m.Watch(q); e != want {
			t.Fatal(e, want)
		}
	default:
		x := d.edit(keys)
		if want, e := m.wantDo(x), m.Do(x); e != want {
			t.Fatal(x, e, want)
		}
	}
	return packets
}

// farBeyond: has a right packet seen edits up to the last ones that there may be?
func farBeyond(p api.Packet) bool {
	for _, t := range p.Tables {
		for _, n := range t.Context.Clock {
			if n == api.MaxSeq {
				return true
			}
		}
	}
	return false
}

// copyOf a packet, in memory of its own.
func copyOf(p api.Packet) api.Packet {
	for i, t := range p.Tables {
		p.Tables[i].Context.Cloud = append([]api.Dot(nil), t.Context.Cloud...)
		p.Tables[i].Cells = append([]api.Cell(nil), t.Cells...)
	}
	return p
}

// mirrors: nodes of all numbers.
func mirrors(t *testing.T) []*mirror {
	var l []*mirror
	for id := range api.Nodes {
		l = append(l, &mirror{Node: nodeOf(t, id), number: id})
	}
	return l
}

// P18, P19, P1: nodes to which much happens, right and wrong, have what P18 says, and each view tells
// what its query tells, at any time.
func TestThrown(t *testing.T) {
	d := dice(1)
	var seen [6]int
	for round := range 21 {
		keys := []int{3, 8, 40}[round%3]
		nodes := mirrors(t)
		var packets []api.Packet
		for range 20 * (10 + keys) {
			m, other := nodes[d.throw(4)], nodes[d.throw(4)]
			packets = d.happen(t, m, other, packets, keys)
			m.hold(t, &seen)
		}
	}
	if seen[api.OK] < 1000 || seen[api.ErrLarge] < 30 || seen[api.ErrForm] < 30 {
		t.Error("too few of a kind", seen)
	}
}

// heard: nodes that edit apart, and all the packets that they sent.
func heard(t *testing.T, d *dice) []api.Packet {
	var packets []api.Packet
	nodes := mirrors(t)
	for range 60 {
		m := nodes[d.throw(4)]
		m.Do(d.edit(6))
		switch d.throw(4) {
		case 0:
			packets = append(packets, m.Whole())
		case 1:
			if p, e := m.Since(nodes[d.throw(4)].Seen()); e == api.OK {
				packets = append(packets, p)
			}
		case 2:
			takeAll(t, m.Node, nodes[d.throw(4)].Whole())
		}
	}
	return packets
}

// P18, P19: who has heard the same has the same, in whatever order, however often, and their views tell
// the same.
func TestHeardTheSame(t *testing.T) {
	d := dice(3)
	for range 100 {
		packets := heard(t, &d)
		one, two := nodeOf(t, 0), nodeOf(t, 3)
		l := texts()
		for _, n := range []*Node{one, two} {
			watchTexts(t, n, l[:4]...)
		}
		for i := range packets {
			takeAll(t, one, packets[i])
			takeAll(t, two, packets[len(packets)-1-i], packets[d.throw(len(packets))])
		}
		if !samePacket(one.Whole(), two.Whole()) {
			t.Fatal(one.Whole(), two.Whole())
		}
		for i := range 4 {
			a, e := one.View(i)
			b, f := two.View(i)
			if e != f || !sameItems(a, b) {
				t.Fatal(i, a, e, b, f)
			}
		}
	}
}

// P18: what was missing is as good as all, and who has taken it has seen all that the other one has.
func TestMissingIsAsGood(t *testing.T) {
	d := dice(4)
	for range 200 {
		packets := heard(t, &d)
		a, all, missing := nodeOf(t, 0), nodeOf(t, 1), nodeOf(t, 1)
		for _, p := range packets {
			if d.throw(2) == 0 {
				takeAll(t, a, p)
			} else {
				takeAll(t, all, p)
				takeAll(t, missing, p)
			}
		}
		p, e := a.Since(missing.Seen())
		if e != api.OK {
			t.Fatal(e)
		}
		takeAll(t, all, a.Whole())
		takeAll(t, missing, p)
		if x, y := all.Whole(), missing.Whole(); !samePacket(x, y) {
			t.Fatal(x, y)
		}
		for i, c := range a.Seen() {
			if is, e := dot.Less(c, all.Seen()[i]); !is || e != api.OK {
				t.Error(i, e)
			}
		}
	}
}
