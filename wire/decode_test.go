package wire

import (
	"math"
	"slices"
	"strings"
	"testing"

	"viewmere/api"
)

// sample: a packet with some of all, and with numbers of one byte and of more.
func sample() api.Packet {
	a := api.Table{
		Context: context([4]int{5, 200, 0, top}, d(0, 9), d(2, 70), d(2, 500)),
		Cells:   cellsAt(d(0, 4), d(1, 150), d(2, 70), d(3, top)),
	}
	b := api.Table{Context: context([4]int{1, 2, 3, 4}, d(1, 64)), Cells: cellsAt(d(1, 64), d(3, 3))}
	return packet(a, b)
}

// P17: what ends too early is no packet.
func TestBeginnings(t *testing.T) {
	for _, p := range []api.Packet{{}, sample()} {
		s := bytesOf(p)
		for i := range len(s) {
			refuse(t, s[:i])
		}
		// Of the numbers alone, with a sum that is right, no beginning is a packet either.
		for i := range len(s) - sumSize {
			refuse(t, sealed(s[:i]))
		}
	}
}

// P17: no byte may be another one, with the sum that the others have.
func TestTurnedBits(t *testing.T) {
	for _, p := range []api.Packet{{}, sample()} {
		s := bytesOf(p)
		for i := range len(s) {
			for mask := 1; mask < 256; mask++ {
				b := []byte(s)
				b[i] ^= byte(mask)
				refuse(t, string(b))
			}
		}
	}
}

// P17: the sum is that of the packet's bytes, all of them and no others, the lowest byte first.
func TestWrongSums(t *testing.T) {
	body := numbers(numbersOf(sample())...)
	sum := sealed(body)[len(body):]
	b := []byte(sum)
	slices.Reverse(b)
	for _, wrong := range []string{
		string(b), "\x00\x00\x00\x00", "\xff\xff\xff\xff",
		sealed(body[1:])[len(body)-1:], sealed(body[:len(body)-1])[len(body)-1:], sealed(body + "\x00")[len(body)+1:],
		sum[1:] + sum[:1], "\x00" + sum, sealed(body + "more")[len(body):],
	} {
		refuse(t, body+wrong)
		refuse(t, body+wrong+"more")
	}
	refuse(t, "\x00"+body+sum)
}

// P17: packets one behind the other are told one by one.
func TestOneBehindTheOther(t *testing.T) {
	l := []api.Packet{sample(), {}, packet(sample().Tables[1], api.Table{}), {}, sample()}
	var s strings.Builder
	for _, p := range l {
		s.WriteString(bytesOf(p))
	}
	rest := s.String()
	for i, want := range l {
		p, n, e := Decode(rest)
		if e != api.OK || n != len(bytesOf(want)) || !same(p, want) {
			t.Fatal(i, p, n, e)
		}
		rest = rest[n:]
	}
	refuse(t, rest)
}

// longer: a number with n bytes more than it needs.
func longer(number string, n int) string {
	b := []byte(number)
	b[len(b)-1] |= 128
	for range n - 1 {
		b = append(b, 128)
	}
	return string(append(b, 0))
}

// P17: each number as short as it may be, wherever it stands.
func TestLongerNumbers(t *testing.T) {
	for _, p := range []api.Packet{{}, sample()} {
		l := numbersOf(p)
		for i := range l {
			own := numbers(l[i])
			for n := 1; n <= 12; n++ {
				refuse(t, sealed(numbers(l[:i]...)+longer(own, n)+numbers(l[i+1:]...)))
			}
		}
	}
}

// P17: numbers of nine bytes are read, and are too great for a table; none has ten, even if the last
// ones were lost.
func TestLongNumbers(t *testing.T) {
	l := numbersOf(sample())
	for i := range l {
		ahead, behind := numbers(l[:i]...), numbers(l[i+1:]...)
		for _, n := range []int{1 << 56, 1 << 61, -1 << 61, 1 << 62, -1 << 62, 1<<62 - 1, math.MaxInt, math.MinInt} {
			refuse(t, sealed(ahead+numbers(n)+behind))
		}
		low := []byte(numbers(l[i]))
		low[len(low)-1] |= 128
		nine := string(low) + strings.Repeat("\x80", 9-len(low))
		for _, end := range []string{"", "\x01", "\x02", "\x7f", "\x80\x01", "\x80\x80\x01", "\xff\xff\xff\xff\x7f"} {
			refuse(t, sealed(ahead+nine+end+behind))
		}
	}
	refuse(t, strings.Repeat("\x80", 1000))
	refuse(t, strings.Repeat("\xff", 1000))
}

// P17: how many there are is from 0 to 400, and is that many.
func TestCounts(t *testing.T) {
	dots := gaps(0, 2, api.MaxDots+1)
	full := api.Table{Context: context([4]int{}, dots[:api.MaxDots]...), Cells: cellsAt(dots[:api.MaxDots]...)}
	p := packet(full, full)
	want(t, p, bytesOf(p))
	l := numbersOf(p)
	half := len(l) / 2
	for _, at := range []int{4, 5 + 2*api.MaxDots, half + 4, half + 5 + 2*api.MaxDots} {
		if l[at] != api.MaxDots {
			t.Fatal(at, l[at])
		}
		for _, n := range []int{-1, -400, 0, 399, 401, 402, 1 << 20, 1 << 40, 1 << 61, -1 << 61, math.MaxInt, math.MinInt} {
			wrong := slices.Clone(l)
			wrong[at] = n
			refuse(t, sealed(numbers(wrong...)))
		}
	}
	for _, n := range []int{-1, 1, 400, 401, math.MaxInt, math.MinInt} {
		for _, at := range []int{4, 5, 10, 11} {
			none := make([]int, 12)
			none[at] = n
			refuse(t, sealed(numbers(none...)))
		}
	}
}

// P1: texts that are nothing at all.
func TestNoPackets(t *testing.T) {
	for _, s := range []string{
		"", "\x00", "packet", "\x00\x00\x00\x00", strings.Repeat("\x00", 12), strings.Repeat("\x00", 16),
		strings.Repeat("\x00", 1<<20), strings.Repeat("\x02", 1<<20), strings.Repeat("\xff", 1<<20), strings.Repeat("é", 300),
	} {
		refuse(t, s)
	}
}
