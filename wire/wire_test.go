package wire

import (
	"encoding/binary"
	"hash/crc32"
	"math"
	"reflect"
	"slices"
	"strings"
	"testing"

	"viewmere/api"
	"viewmere/table"
)

const top = api.MaxSeq

// d: a dot, in short.
func d(node, seq int) api.Dot { return api.Dot{Node: node, Seq: seq} }

// context: a context, in short.
func context(clock [api.Nodes]int, cloud ...api.Dot) api.Context {
	return api.Context{Clock: clock, Cloud: cloud}
}

// cellAt: a cell at a dot; which one it is can be told from its value.
func cellAt(x api.Dot) api.Cell {
	return api.Cell{Dot: x, Key: x.Seq % api.Keys, Col: x.Node % api.Cols, Value: x.Seq%2001 - api.MaxValue}
}

// cellsAt: a cell at each of the dots.
func cellsAt(l ...api.Dot) []api.Cell {
	var cells []api.Cell
	for _, x := range l {
		cells = append(cells, cellAt(x))
	}
	return cells
}

// gaps: n dots of node, from first on, each two above the one ahead.
func gaps(node, first, n int) []api.Dot {
	var l []api.Dot
	for i := range n {
		l = append(l, d(node, first+2*i))
	}
	return l
}

// packet: a packet, in short.
func packet(a, b api.Table) api.Packet { return api.Packet{Tables: [api.Tables]api.Table{a, b}} }

// sameTable: are two tables the same, an empty list being as good as none?
func sameTable(a, b api.Table) bool {
	return a.Context.Clock == b.Context.Clock && slices.Equal(a.Context.Cloud, b.Context.Cloud) && slices.Equal(a.Cells, b.Cells)
}

// same: are two packets the same?
func same(a, b api.Packet) bool {
	return sameTable(a.Tables[0], b.Tables[0]) && sameTable(a.Tables[1], b.Tables[1])
}

// numbers as the library writes them, which is as P16 asks for it between its edges.
func numbers(l ...int) string {
	var b []byte
	for _, n := range l {
		b = binary.AppendVarint(b, int64(n))
	}
	return string(b)
}

// sealed: a text with its sum behind it, as the library tells that.
func sealed(s string) string {
	return string(binary.LittleEndian.AppendUint32([]byte(s), crc32.ChecksumIEEE([]byte(s))))
}

// numbersOf a packet, right or not, in the order of P17.
func numbersOf(p api.Packet) []int {
	var l []int
	for _, t := range p.Tables {
		l = append(append(l, t.Context.Clock[:]...), len(t.Context.Cloud))
		for _, x := range t.Context.Cloud {
			l = append(l, x.Node, x.Seq)
		}
		l = append(l, len(t.Cells))
		for _, x := range t.Cells {
			l = append(l, x.Dot.Node, x.Dot.Seq, x.Key, x.Col, x.Value)
		}
	}
	return l
}

// bytesOf a packet, right or not.
func bytesOf(p api.Packet) string { return sealed(numbers(numbersOf(p)...)) }

// refuse: Decode's error, and nothing beside it.
func refuse(t *testing.T, s string) {
	t.Helper()
	p, n, e := Decode(s)
	if e != api.ErrForm || n != 0 || !reflect.DeepEqual(p, api.Packet{}) {
		t.Errorf("%q: %v %v %v", s, p, n, e)
	}
}

// want: a packet and its bytes are told of one another, whatever is behind these.
func want(t *testing.T, p api.Packet, s string) {
	t.Helper()
	if got, e := Encode(p); e != api.OK || got != s {
		t.Errorf("%v: %q %v, not %q", p, got, e, s)
	}
	for _, behind := range []string{"", "\x00", "more", "\xff\xff", s, s[:len(s)-1]} {
		if got, n, e := Decode(s + behind); e != api.OK || n != len(s) || !same(got, p) {
			t.Errorf("%q and %q: %v %v %v, not %v", s, behind, got, n, e, p)
		}
	}
}

// P16: numbers near to 0, at the edges of a byte more, and as far as they may be.
func TestNumber(t *testing.T) {
	for _, x := range []struct {
		n    int
		want string
	}{
		{0, "\x00"}, {-1, "\x01"}, {1, "\x02"}, {-2, "\x03"}, {2, "\x04"},
		{63, "\x7e"}, {-64, "\x7f"}, {64, "\x80\x01"}, {-65, "\x81\x01"}, {65, "\x82\x01"},
		{127, "\xfe\x01"}, {128, "\x80\x02"}, {-128, "\xff\x01"}, {-129, "\x81\x02"},
		{1000, "\xd0\x0f"}, {-1000, "\xcf\x0f"},
		{8191, "\xfe\x7f"}, {-8192, "\xff\x7f"}, {8192, "\x80\x80\x01"}, {-8193, "\x81\x80\x01"},
		{top, "\x80\x80\x80\x80\x80\x40"},
		{1<<55 - 1, "\xfe\xff\xff\xff\xff\xff\xff\x7f"},
		{-1 << 55, "\xff\xff\xff\xff\xff\xff\xff\x7f"},
		{1 << 55, "\x80\x80\x80\x80\x80\x80\x80\x80\x01"},
		{1<<61 - 1, "\xfe\xff\xff\xff\xff\xff\xff\xff\x3f"},
		{1 << 61, "\x80\x80\x80\x80\x80\x80\x80\x80\x40"},
		{1 - 1<<61, "\xfd\xff\xff\xff\xff\xff\xff\xff\x3f"},
		{-1 << 61, "\xff\xff\xff\xff\xff\xff\xff\xff\x3f"},
	} {
		if s := Number(x.n); s != x.want {
			t.Errorf("%d: %q, not %q", x.n, s, x.want)
		}
	}
}

// P16: what is farther than 2^61 from 0 is as that.
func TestNumberBeyond(t *testing.T) {
	for _, n := range []int{1<<61 + 1, 1<<61 + 64, 1 << 62, math.MaxInt - 1, math.MaxInt} {
		if s := Number(n); s != Number(1<<61) {
			t.Errorf("%d: %q", n, s)
		}
	}
	for _, n := range []int{-1<<61 - 1, -1<<61 - 64, -1 << 62, math.MinInt + 1, math.MinInt} {
		if s := Number(n); s != Number(-1<<61) {
			t.Errorf("%d: %q", n, s)
		}
	}
}

// P16: many numbers held against the library's, and that none has the bytes of another one.
func TestNumbers(t *testing.T) {
	told := map[string]int{}
	for _, middle := range []int{0, 1 << 13, 1 << 20, 1 << 27, 1 << 34, top, 1 << 48, 1 << 55, 1 << 60} {
		for i := -300; i <= 300; i++ {
			for _, n := range []int{middle + i, -middle + i} {
				s := Number(n)
				if s != numbers(n) {
					t.Fatalf("%d: %q, not %q", n, s, numbers(n))
				}
				if m, is := told[s]; is && m != n {
					t.Fatal(n, m, s)
				}
				told[s] = n
			}
		}
	}
}

// P16: sums that are known, and those of each byte, and of each two.
func TestSum(t *testing.T) {
	for s, n := range map[string]uint32{
		"": 0, "a": 0xe8b7be43, "abc": 0x352441c2, "123456789": 0xcbf43926, "\x00": 0xd202ef8d, "\xff": 0xff000000,
		"\x00\x00\x00\x00": 0x2144df1c, "\xff\xff\xff\xff": 0xffffffff,
		"The quick brown fox jumps over the lazy dog": 0x414fa339,
	} {
		if got := Sum(s); got != n {
			t.Errorf("%q: %x, not %x", s, got, n)
		}
	}
	for i := range 1 << 16 {
		for _, b := range [][]byte{{byte(i)}, {byte(i), byte(i >> 8)}} {
			if got := Sum(string(b)); got != crc32.ChecksumIEEE(b) {
				t.Fatalf("%q: %x", b, got)
			}
		}
	}
}

// P16: sums of long texts, of bytes that are no runes too.
func TestSumOfLongTexts(t *testing.T) {
	x := dice(16)
	for _, size := range []int{3, 4, 5, 100, 1000, 1 << 20} {
		for _, s := range []string{x.text(size), strings.Repeat("\x00", size), strings.Repeat("é", size)} {
			if got := Sum(s); got != crc32.ChecksumIEEE([]byte(s)) {
				t.Errorf("%d: %x", size, got)
			}
		}
	}
}

// P17: an empty packet has 16 bytes.
func TestEmpty(t *testing.T) {
	want(t, api.Packet{}, "\x00\x00\x00\x00\x00\x00\x00\x00\x00\x00\x00\x00\x6f\xc6\xd5\x7b")
	none := api.Table{Context: api.Context{Cloud: []api.Dot{}}, Cells: []api.Cell{}}
	want(t, packet(none, none), sealed(strings.Repeat("\x00", 12)))
}

// P17: each number at its place, and the lists behind how many they have.
func TestBytes(t *testing.T) {
	a := api.Table{
		Context: context([4]int{1, 70, 3, top}, d(0, 3), d(2, 100)),
		Cells: []api.Cell{
			{Dot: d(0, 1), Key: 49, Col: 2, Value: -1000},
			{Dot: d(1, 64), Key: 0, Col: 1, Value: 1000},
			{Dot: d(2, 100), Key: 7, Col: 0, Value: -5},
		},
	}
	b := api.Table{Context: context([4]int{0, 0, 5}, d(3, top)), Cells: []api.Cell{{Dot: d(3, top), Key: 1, Col: 2, Value: 3}}}
	far := "\x80\x80\x80\x80\x80\x40"
	first := "\x02\x8c\x01\x06" + far + "\x04" + "\x00\x06" + "\x04\xc8\x01" +
		"\x06" + "\x00\x02\x62\x04\xcf\x0f" + "\x02\x80\x01\x00\x02\xd0\x0f" + "\x04\xc8\x01\x0e\x00\x09"
	second := "\x00\x00\x0a\x00" + "\x02" + "\x06" + far + "\x02" + "\x06" + far + "\x02\x04\x06"
	nothing := "\x00\x00\x00\x00\x00\x00"
	want(t, packet(a, b), sealed(first+second))
	want(t, packet(b, a), sealed(second+first))
	want(t, packet(a, a), sealed(first+first))
	want(t, packet(a, api.Table{}), sealed(first+nothing))
	want(t, packet(api.Table{}, b), sealed(nothing+second))
}

// P17: as much as a packet may have.
func TestLargest(t *testing.T) {
	far := context([4]int{top, top, top}, gaps(3, top-2*api.MaxDots, api.MaxDots)...)
	a := api.Table{Context: far, Cells: cellsAt(far.Cloud...)}
	b := api.Table{Context: context([4]int{top, top, top, top}), Cells: cellsAt(gaps(2, top-2*api.MaxDots, api.MaxDots)...)}
	want(t, packet(a, b), bytesOf(packet(a, b)))
	want(t, packet(b, a), bytesOf(packet(b, a)))
	want(t, packet(a, a), bytesOf(packet(a, a)))
}

// P17: what edits and merges make comes through.
func TestEdits(t *testing.T) {
	var x api.Table
	for i := range 120 {
		edit, e := table.Put(x, i%4, i%7, i%3, i*17%2001-1000)
		if i%11 == 10 {
			edit, e = table.Del(x, i%7)
		}
		if e != api.OK {
			t.Fatal(i, e)
		}
		old := x
		if x, e = table.Merge(x, edit); e != api.OK {
			t.Fatal(i, e)
		}
		news, e := table.Since(x, old.Context)
		if e != api.OK {
			t.Fatal(i, e)
		}
		want(t, packet(edit, x), bytesOf(packet(edit, x)))
		want(t, packet(x, news), bytesOf(packet(x, news)))
	}
}

// broken: tables that table.Check refuses, each for a reason of its own.
func broken() []api.Table {
	nine := context([4]int{9, 9, 9, 9})
	return []api.Table{
		{Context: context([4]int{-1})},
		{Context: context([4]int{0, 0, 0, top + 1})},
		{Context: context([4]int{0, -1 << 61})},
		{Context: context([4]int{0, 0, 1 << 61})},
		{Context: context([4]int{}, gaps(0, 3, api.MaxDots+1)...)},
		{Context: context([4]int{}, d(-1, 2))},
		{Context: context([4]int{}, d(4, 2))},
		{Context: context([4]int{}, d(0, 1))},
		{Context: context([4]int{}, d(0, -2))},
		{Context: context([4]int{5}, d(0, 6))},
		{Context: context([4]int{}, d(0, top+1))},
		{Context: context([4]int{}, d(0, 3), d(0, 3))},
		{Context: context([4]int{}, d(1, 3), d(0, 5))},
		{Context: context([4]int{top}), Cells: cellsAt(gaps(0, 1, api.MaxDots+1)...)},
		{Context: nine, Cells: cellsAt(d(0, 10))},
		{Context: nine, Cells: cellsAt(d(0, 0))},
		{Context: nine, Cells: []api.Cell{{Dot: d(4, 1)}}},
		{Context: nine, Cells: []api.Cell{{Dot: d(-1, 1)}}},
		{Context: nine, Cells: cellsAt(d(0, 2), d(0, 1))},
		{Context: nine, Cells: cellsAt(d(0, 2), d(0, 2))},
		{Context: nine, Cells: []api.Cell{{Dot: d(0, 2), Key: -1}}},
		{Context: nine, Cells: []api.Cell{{Dot: d(0, 2), Key: api.Keys}}},
		{Context: nine, Cells: []api.Cell{{Dot: d(0, 2), Col: -1}}},
		{Context: nine, Cells: []api.Cell{{Dot: d(0, 2), Col: api.Cols}}},
		{Context: nine, Cells: []api.Cell{{Dot: d(0, 2), Value: api.MaxValue + 1}}},
		{Context: nine, Cells: []api.Cell{{Dot: d(0, 2), Value: -api.MaxValue - 1}}},
	}
}

// P17: Encode tells table.Check's error, of the first table ahead of the second; Decode tells ErrForm.
func TestBrokenTables(t *testing.T) {
	fine := api.Table{Context: context([4]int{2}, d(1, 7)), Cells: cellsAt(d(0, 2))}
	check := func(p api.Packet, bad api.Table) {
		t.Helper()
		e := table.Check(bad)
		if s, got := Encode(p); e == api.OK || got != e || s != "" {
			t.Errorf("%v: %q %v, not %v", p, s, got, e)
		}
		refuse(t, bytesOf(p))
	}
	for _, x := range broken() {
		check(packet(x, fine), x)
		check(packet(fine, x), x)
		check(packet(x, api.Table{}), x)
		check(packet(api.Table{}, x), x)
		for _, y := range broken() {
			check(packet(x, y), x)
		}
	}
}
