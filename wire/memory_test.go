package wire

import (
	"math"
	"slices"
	"strings"
	"testing"

	"viewmere/api"
)

// roomy: a list with the same in it, and with room behind it that is written full.
func roomy[T any](l []T, filler T) []T {
	return append(slices.Clone(l), filler, filler, filler)[:len(l)]
}

// roomyPacket: the same packet, with room behind its lists.
func roomyPacket(p api.Packet) api.Packet {
	for i, t := range p.Tables {
		p.Tables[i].Context.Cloud = roomy(t.Context.Cloud, d(-7, -7))
		p.Tables[i].Cells = roomy(t.Cells, cellAt(d(-7, -7)))
	}
	return p
}

// whole: a copy of a packet, the room behind each list included.
func whole(p api.Packet) api.Packet {
	for i, t := range p.Tables {
		p.Tables[i].Context.Cloud = slices.Clone(t.Context.Cloud[:cap(t.Context.Cloud)])
		p.Tables[i].Cells = slices.Clone(t.Cells[:cap(t.Cells)])
	}
	return p
}

// scrawl: writes over a list and the room behind it.
func scrawl[T any](l []T, filler T) {
	l = l[:cap(l)]
	for i := range l {
		l[i] = filler
	}
}

// P2: Encode doesn't change a packet, or the room behind its lists, and keeps none of it.
func TestMemoryOfEncode(t *testing.T) {
	packets := []api.Packet{{}, sample(), packet(sample().Tables[1], api.Table{})}
	for _, x := range broken() {
		packets = append(packets, packet(x, sample().Tables[0]), packet(sample().Tables[0], x))
	}
	for _, p := range packets {
		mine := roomyPacket(p)
		before := whole(mine)
		s, e := Encode(mine)
		copied := strings.Clone(s)
		if !same(whole(mine), before) {
			t.Error("changes what is handed in", mine, before)
		}
		for _, x := range mine.Tables {
			scrawl(x.Context.Cloud, d(-9, -9))
			scrawl(x.Cells, cellAt(d(-9, -9)))
		}
		again, f := Encode(p)
		if s != copied || again != s || e != f {
			t.Errorf("hangs on what was handed in: %q %q %v %v", s, again, e, f)
		}
	}
}

// P2: no list that Decode tells shares memory with another one of the same answer, or of another one.
func TestMemoryOfDecode(t *testing.T) {
	dots := gaps(1, 2, api.MaxDots)
	full := api.Table{Context: context([4]int{}, dots...), Cells: cellsAt(dots...)}
	for _, p := range []api.Packet{sample(), packet(full, full), packet(sample().Tables[1], full)} {
		s := bytesOf(p)
		// Each list in its turn is written over: all others stay.
		for turn := range 4 {
			one, _, e := Decode(s)
			two, _, f := Decode(s)
			if e != api.OK || f != api.OK || !same(one, p) || !same(two, p) {
				t.Fatal(one, two, e, f)
			}
			i := turn / 2
			if turn%2 == 0 {
				scrawl(one.Tables[i].Context.Cloud, d(-9, -9))
				one.Tables[i].Context.Cloud = p.Tables[i].Context.Cloud
			} else {
				scrawl(one.Tables[i].Cells, cellAt(d(-9, -9)))
				one.Tables[i].Cells = p.Tables[i].Cells
			}
			if !same(one, p) || !same(two, p) {
				t.Error(turn, "shares with another list", one, two)
			}
		}
	}
}

// P2: nothing is kept from call to call: what went wrong ahead is not to be seen.
func TestNothingIsKept(t *testing.T) {
	s := bytesOf(sample())
	for _, x := range broken() {
		Encode(packet(x, x))
		Decode(bytesOf(packet(sample().Tables[0], x)))
		Decode(s[:len(s)-1])
		want(t, sample(), s)
	}
}

// P1: no call panics, whatever it is given.
func TestNoPanic(t *testing.T) {
	numbers := []int{math.MinInt, -1 << 61, -1, 0, 1, 4, 400, 401, top, top + 1, 1 << 61, math.MaxInt}
	for _, m := range numbers {
		Number(m)
		for _, n := range numbers {
			x := api.Table{Context: context([4]int{m, n}, d(n, m)), Cells: []api.Cell{{Dot: d(m, n), Key: m, Col: n, Value: m}}}
			y := api.Table{Context: context([4]int{5, 5, 5, 5}), Cells: []api.Cell{{Dot: d(1, 2), Key: m, Col: n, Value: m}, {Dot: d(m, n)}}}
			for _, p := range []api.Packet{packet(x, y), packet(y, x), packet(api.Table{}, y)} {
				Encode(p)
				Decode(bytesOf(p))
			}
		}
	}
}
