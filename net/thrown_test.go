package net

import (
	"math"
	"testing"

	"viewmere/api"
	"viewmere/plain"
	"viewmere/query"
	"viewmere/table"
	"viewmere/zset"
)

// dice: numbers that look thrown, the same ones at each run.
type dice uint64

// throw: one of n numbers, from 0 on.
func (d *dice) throw(n int) int {
	*d = *d*6364136223846793005 + 1442695040888963407
	return int(uint64(*d)>>33) % n
}

// texts of queries, right and wrong.
func texts() []string {
	const both = "table 0\ntable 1\n"
	return []string{
		"table 0\n",
		both + "union 0 1\n",
		both + "join 0 1 1 0\npick 2 0,7\n",
		both + "minus 0 1\ndistinct 2\n",
		both + "pick 0 1\npick 1 3\nunion 2 3\ncount 4 0\n",
		"table 0\nsum 0 1 2\n",
		"table 0\njoin 0 0 1 1\n",
		"",
		"table 0",
		"table 2\n",
		both + "x\n",
	}
}

// edit: of the first keys; now and then a wrong one.
func (d *dice) edit(keys int) api.Edit {
	x := api.Edit{Kind: 1 + d.throw(4)/3, Table: d.throw(2), Key: d.throw(keys), Col: d.throw(3), Value: d.throw(4) - 1}
	if d.throw(12) == 0 {
		*[]*int{&x.Kind, &x.Table, &x.Key, &x.Col, &x.Value}[d.throw(5)] = d.wild()
	}
	return x
}

// wild: a number that is most often out of bounds.
func (d *dice) wild() int {
	l := []int{math.MinInt, -1001, -1, 2, 3, 4, 50, 1001, math.MaxInt}
	return l[d.throw(len(l))]
}

// happens: something, of so many packets; now and then a wrong thing.
func (d *dice) happens(keys, packets int) api.Happens {
	l := texts()
	x := api.Happens{Kind: 1 + d.throw(5), A: d.throw(4), B: d.throw(4), N: d.throw(packets + 1), Edit: d.edit(keys), Text: l[d.throw(len(l))]}
	if d.throw(3) == 0 {
		x.Kind = api.HEdit
	}
	if d.throw(12) == 0 {
		*[]*int{&x.Kind, &x.A, &x.B, &x.N}[d.throw(4)] = d.wild()
	}
	return x
}

// model: what P18 to P21 say that a net has.
type model struct {
	tables  [api.Nodes][api.Tables]api.Table
	packets []sent
	asked   [api.Nodes][][]api.Step
}

// do: what P20 says of what happens.
func (m *model) do(x api.Happens) api.Errno {
	noA, noB := x.A < 0 || x.A > 3, x.B < 0 || x.B > 3
	switch {
	case x.Kind < api.HEdit || x.Kind > api.HView:
		return api.ErrArg
	case x.Kind == api.HTake:
		if x.N < 0 || x.N >= len(m.packets) {
			return api.ErrNone
		}
		return m.take(m.packets[x.N].to, m.packets[x.N].packet)
	case noA || noB && (x.Kind == api.HSend || x.Kind == api.HDiff):
		return api.ErrNone
	case x.Kind == api.HEdit:
		return m.edit(x.A, x.Edit)
	case x.Kind == api.HView:
		return m.watch(x.A, x.Text)
	case len(m.packets) == 200:
		return api.ErrLarge
	}
	p := api.Packet{Tables: m.tables[x.A]}
	if x.Kind == api.HDiff {
		for i := range p.Tables {
			var e api.Errno
			if p.Tables[i], e = table.Since(p.Tables[i], m.tables[x.B][i].Context); e != api.OK {
				return e
			}
		}
	}
	m.packets = append(m.packets, sent{x.B, p})
	return api.OK
}

// edit: what P18 says of an edit.
func (m *model) edit(id int, x api.Edit) api.Errno {
	if x.Kind != api.EPut && x.Kind != api.EDel || x.Table != 0 && x.Table != 1 {
		return api.ErrArg
	}
	had := m.tables[id][x.Table]
	edit, e := table.Del(had, x.Key)
	if x.Kind == api.EPut {
		edit, e = table.Put(had, id, x.Key, x.Col, x.Value)
	}
	if e != api.OK {
		return e
	}
	merged, e := table.Merge(had, edit)
	if e == api.OK {
		m.tables[id][x.Table] = merged
	}
	return e
}

// take: what P18 says of a packet.
func (m *model) take(id int, p api.Packet) api.Errno {
	first, e := table.Merge(m.tables[id][0], p.Tables[0])
	if e != api.OK {
		return e
	}
	second, e := table.Merge(m.tables[id][1], p.Tables[1])
	if e != api.OK {
		return e
	}
	m.tables[id] = [api.Tables]api.Table{first, second}
	return api.OK
}

// watch: what P20 and P19 say of a view.
func (m *model) watch(id int, text string) api.Errno {
	q, _, e := query.Parse(text)
	if e != api.OK {
		return e
	}
	if len(m.asked[id]) == 4 {
		return api.ErrLarge
	}
	m.asked[id] = append(m.asked[id], q)
	return api.OK
}

// view: what P19 says of a view.
func (m *model) view(id, i int) ([]api.Item, api.Errno) {
	if i < 0 || i >= len(m.asked[id]) {
		return nil, api.ErrNone
	}
	a, e := zset.Of(m.tables[id][0])
	if e != api.OK {
		return nil, e
	}
	b, e := zset.Of(m.tables[id][1])
	if e != api.OK {
		return nil, e
	}
	return plain.Eval(m.asked[id][i], a, b)
}

// meet: what P21 says of Meet.
func (m *model) meet() api.Errno {
	for i := range 2 * api.Nodes * api.Nodes {
		a, b := i/api.Nodes%api.Nodes, i%api.Nodes
		if a == b {
			continue
		}
		if e := m.take(b, api.Packet{Tables: m.tables[a]}); e != api.OK {
			return e
		}
	}
	return api.OK
}

// hold: the net is held against the model.
func (m *model) hold(t *testing.T, n *Net) {
	t.Helper()
	if n.Packets() != len(m.packets) {
		t.Fatal(n.Packets(), len(m.packets))
	}
	for id := range api.Nodes {
		for i, want := range m.tables[id] {
			has(t, n, id, i, want)
		}
		for i := range 5 {
			l, e := n.View(id, i)
			want, f := m.view(id, i)
			if e != f || !sameItems(l, want) {
				t.Fatal(id, i, l, e, want, f)
			}
		}
	}
	if t.Failed() {
		t.FailNow()
	}
}

// P20, P21, P1: much happens, right and wrong, in whatever order: each answer is as the promises say,
// and so are the tables and views.
func TestThrown(t *testing.T) {
	d := dice(1)
	var seen [6]int
	for round := range 12 {
		keys := []int{3, 8, 40}[round%3]
		n, m := New(), &model{}
		for i := range 300 + 100*(round%4) {
			x := d.happens(keys, len(m.packets))
			want := m.do(x)
			if e := n.Do(x); e != want {
				t.Fatal(round, i, x, e, want)
			}
			seen[want]++
			if i%7 == 0 {
				m.hold(t, n)
			}
		}
		m.hold(t, n)
		if want, e := m.meet(), n.Meet(); e != want {
			t.Fatal(round, e, want)
		}
		m.hold(t, n)
	}
	for e, many := range seen[:5] {
		if many < 20 {
			t.Error("too few of an error", e, many)
		}
	}
}

// P21: nodes that hear nothing of one another meet, or have too much for one table.
func TestThrownMeet(t *testing.T) {
	d := dice(2)
	var seen [6]int
	for round := range 20 {
		n, m := New(), &model{}
		for range 300 + 60*round {
			x := api.Happens{Kind: api.HEdit, A: d.throw(4), Edit: d.edit(api.Keys)}
			x.Edit.Kind, x.Edit.Table = api.EPut, d.throw(6)/5
			if want, e := m.do(x), n.Do(x); e != want {
				t.Fatal(x, e, want)
			}
		}
		want := m.meet()
		if e := n.Meet(); e != want {
			t.Fatal(round, e, want)
		}
		seen[want]++
		m.hold(t, n)
	}
	if seen[api.OK] < 5 || seen[api.ErrLarge] < 5 {
		t.Error("too few of a kind", seen)
	}
}

// P20, P21: who has heard the same has the same: in whatever order the packets come, and with Meet.
func TestThrownOrders(t *testing.T) {
	d := dice(3)
	for round := range 30 {
		var edits []api.Happens
		packets := 0
		for range 60 {
			x := d.happens(6, packets)
			if x.Kind == api.HTake || x.Kind == api.HView {
				continue
			}
			if x.Kind != api.HEdit {
				packets++
			}
			edits = append(edits, x)
		}
		one, two := New(), New()
		for _, x := range edits {
			if e, f := one.Do(x), two.Do(x); e != f {
				t.Fatal(round, x, e, f)
			}
		}
		last := one.Packets() - 1
		for i := range one.Packets() {
			happen(t, one, take(i), take(d.throw(last+1)))
			happen(t, two, take(last-i))
		}
		alike(t, one, two)
		if e, f := one.Meet(), two.Meet(); e != api.OK || f != api.OK {
			t.Fatal(round, e, f)
		}
		alike(t, one, two)
		for id := range api.Nodes {
			for i := range api.Tables {
				x, _ := one.Table(0, i)
				has(t, one, id, i, x)
			}
		}
	}
}
