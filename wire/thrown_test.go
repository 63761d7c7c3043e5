package wire

import (
	"encoding/binary"
	"reflect"
	"testing"

	"viewmere/api"
	"viewmere/dot"
	"viewmere/table"
)

// dice: numbers that look thrown, the same ones at each run.
type dice uint64

// throw: one of n numbers, from 0 on.
func (x *dice) throw(n int) int {
	*x = *x*6364136223846793005 + 1442695040888963407
	return int(uint64(*x)>>33) % n
}

// oneOf these numbers.
func (x *dice) oneOf(l ...int) int { return l[x.throw(len(l))] }

// text of that many bytes.
func (x *dice) text(size int) string {
	b := make([]byte, size)
	for i := range b {
		b[i] = byte(x.throw(256))
	}
	return string(b)
}

// table: a right one.
func (x *dice) table() api.Table {
	var t api.Table
	for node := range t.Context.Clock {
		t.Context.Clock[node] = x.oneOf(0, 0, 3, 63, 64, 1<<30, top-200, x.throw(1000))
	}
	for node, seq := range t.Context.Clock {
		for range x.throw(8) {
			seq += 2 + x.throw(20)
			t.Context.Cloud = append(t.Context.Cloud, d(node, min(seq, top)))
		}
	}
	for node := range api.Nodes {
		for seq := 1; seq < 100; seq += 1 + x.throw(60) {
			if y := d(node, seq); dot.Has(t.Context, y) {
				t.Cells = append(t.Cells, api.Cell{Dot: y, Key: x.throw(api.Keys), Col: x.throw(api.Cols), Value: x.throw(2001) - 1000})
			}
		}
	}
	return t
}

// model reads numbers by the library, and goes through them as P17 tells it.
type model struct {
	l    []int
	ends []int
}

// read: all numbers that a text begins with, and where each of them ends.
func read(s string) model {
	var m model
	for at := 0; at < len(s); {
		n, size := binary.Varint([]byte(s[at:]))
		// What isn't written again as it was read is longer than it needs to be.
		if size <= 0 || size > 9 || numbers(int(n)) != s[at:at+size] {
			break
		}
		at += size
		m.l = append(m.l, int(n))
		m.ends = append(m.ends, at)
	}
	return m
}

// list: how many of width numbers each there are at at, and where they end; false, if they can't be.
func (m model) list(at, width int) ([][]int, int, bool) {
	if at >= len(m.l) || m.l[at] < 0 || m.l[at] > 400 || at+1+width*m.l[at] > len(m.l) {
		return nil, 0, false
	}
	var rows [][]int
	for i := range m.l[at] {
		first := at + 1 + width*i
		rows = append(rows, m.l[first:first+width])
	}
	return rows, at + 1 + width*len(rows), true
}

// table: that at at, and where it ends.
func (m model) table(at int) (api.Table, int, bool) {
	var t api.Table
	if at+4 > len(m.l) {
		return t, 0, false
	}
	copy(t.Context.Clock[:], m.l[at:])
	cloud, at, ok := m.list(at+4, 2)
	if !ok {
		return t, 0, false
	}
	cells, at, ok := m.list(at, 5)
	for _, r := range cloud {
		t.Context.Cloud = append(t.Context.Cloud, d(r[0], r[1]))
	}
	for _, r := range cells {
		t.Cells = append(t.Cells, api.Cell{Dot: d(r[0], r[1]), Key: r[2], Col: r[3], Value: r[4]})
	}
	return t, at, ok
}

// decoded: what Decode is to tell.
func decoded(s string) (api.Packet, int, api.Errno) {
	m := read(s)
	a, at, ok := m.table(0)
	if !ok {
		return api.Packet{}, 0, api.ErrForm
	}
	b, at, ok := m.table(at)
	if !ok {
		return api.Packet{}, 0, api.ErrForm
	}
	body := s[:m.ends[at-1]]
	whole := sealed(body)
	if len(s) < len(whole) || s[:len(whole)] != whole || table.Check(a) != api.OK || table.Check(b) != api.OK {
		return api.Packet{}, 0, api.ErrForm
	}
	return packet(a, b), len(whole), api.OK
}

// checkThrown: holds what Decode tells against the model, and tells the error.
func checkThrown(t *testing.T, s string) api.Errno {
	t.Helper()
	p, n, e := Decode(s)
	wantP, wantN, wantE := decoded(s)
	if e != wantE || n != wantN || !same(p, wantP) {
		t.Fatalf("%q: %v %v %v, not %v %v %v", s, p, n, e, wantP, wantN, wantE)
	}
	if e != api.OK {
		if !reflect.DeepEqual(p, api.Packet{}) {
			t.Fatalf("%q: %v", s, p)
		}
		return e
	}
	if again, e := Encode(p); e != api.OK || again != s[:n] {
		t.Fatalf("%q: %q %v", s, again, e)
	}
	return e
}

// spoil: a packet's numbers, one of which is another one, is twice there, or is not there.
func (x *dice) spoil(l []int) []int {
	i := x.throw(len(l))
	n := l[i]
	behind := append([]int{}, l[i+1:]...)
	l = l[:i:i]
	switch x.throw(4) {
	case 0:
		l = append(l, x.oneOf(-1, 0, 1, 2, 3, 49, 50, 400, 401, 1000, 1001, top, top+1, 1<<61))
	case 1:
		l = append(l, n+x.oneOf(-1, 1))
	case 2:
		l = append(l, n, n)
	}
	return append(l, behind...)
}

// P17: thrown packets come through; with a number that is another one, and a sum that is right, they
// are what the model tells.
func TestThrown(t *testing.T) {
	x := dice(17)
	told := map[api.Errno]int{}
	for range 4000 {
		p := packet(x.table(), x.table())
		if s, e := Encode(p); table.Check(p.Tables[0]) == api.OK && table.Check(p.Tables[1]) == api.OK {
			if e != api.OK || s != bytesOf(p) || checkThrown(t, s+x.text(x.throw(3))) != api.OK {
				t.Fatal(p, s, e)
			}
		}
		told[checkThrown(t, sealed(numbers(x.spoil(numbersOf(p))...))+x.text(x.throw(3)))]++
	}
	for _, e := range []api.Errno{api.OK, api.ErrForm} {
		if told[e] < 200 {
			t.Error("too few of", e, told)
		}
	}
}

// P17: a packet's numbers with a byte that is another one, is twice there, or is not there, and a sum
// that is right.
func TestThrownBytes(t *testing.T) {
	x := dice(18)
	told := map[api.Errno]int{}
	for range 4000 {
		b := []byte(numbers(numbersOf(packet(x.table(), x.table()))...))
		i := x.throw(len(b))
		switch x.throw(3) {
		case 0:
			b[i] ^= byte(1 << x.throw(8))
		case 1:
			b = append(b[:i+1], b[i:]...)
		default:
			b = append(b[:i], b[i+1:]...)
		}
		told[checkThrown(t, sealed(string(b)))]++
	}
	for _, e := range []api.Errno{api.OK, api.ErrForm} {
		if told[e] < 200 {
			t.Error("too few of", e, told)
		}
	}
}

// P1: thrown bytes, with no sum or the right one.
func TestThrownTexts(t *testing.T) {
	x := dice(19)
	for range 20000 {
		s := x.text(x.throw(60))
		checkThrown(t, s)
		checkThrown(t, sealed(s))
	}
	// Small bytes are numbers more often.
	for range 20000 {
		b := make([]byte, 12+x.throw(20))
		for i := range b {
			b[i] = byte(x.oneOf(0, 0, 0, 0, 1, 2, 4, 128))
		}
		checkThrown(t, sealed(string(b)))
	}
}
