package wire

import "viewmere/api"

// reader goes through a text number by number. Once one can't be read, none behind it can: so whoever
// reads need ask for bad but once, in the end.
type reader struct {
	text string
	at   int
	bad  bool
}

// fail: the text isn't a packet's; nothing of it is left to be read.
func (r *reader) fail() {
	r.bad = true
	r.at = len(r.text)
}

// number: the next number; 0, if there is none.
func (r *reader) number() int {
	var u uint64
	for i := range longest {
		if r.at == len(r.text) {
			break
		}
		b := r.text[r.at]
		r.at++
		u |= uint64(b%more) << (bitsAByte * i)
		if b >= more {
			continue
		}
		// Behind others a last byte of 0 adds nothing: the number would be as good without it.
		if b == 0 && i > 0 {
			break
		}
		return unfold(u)
	}
	r.fail()
	return 0
}

// count: the next number, which tells how many there are; 0, if it can't.
func (r *reader) count() int {
	n := r.number()
	if n < 0 || n > api.MaxDots {
		r.fail()
		return 0
	}
	return n
}

// dot: the next dot, right or not.
func (r *reader) dot() api.Dot {
	return api.Dot{Node: r.number(), Seq: r.number()}
}

// cell: the next cell, right or not.
func (r *reader) cell() api.Cell {
	return api.Cell{Dot: r.dot(), Key: r.number(), Col: r.number(), Value: r.number()}
}

// table: the next table, right or not.
func (r *reader) table() api.Table {
	var t api.Table
	for node := range t.Context.Clock {
		t.Context.Clock[node] = r.number()
	}
	t.Context.Cloud = list(r.count(), r.dot)
	t.Cells = list(r.count(), r.cell)
	return t
}

// list: n things, one read behind the other.
func list[T any](n int, next func() T) []T {
	var l []T
	for range n {
		l = append(l, next())
	}
	return l
}
