package query

import (
	"math"
	"slices"
	"testing"

	"viewmere/api"
)

// Steps of each kind, with what it tells.
func tableOf(a int) api.Step { return api.Step{Kind: api.QTable, A: a} }
func where(a, col, op, value int) api.Step {
	return api.Step{Kind: api.QWhere, A: a, Col: col, Op: op, Value: value}
}
func pick(a int, list ...int) api.Step { return api.Step{Kind: api.QPick, A: a, List: list} }
func join(a, b, col, value int) api.Step {
	return api.Step{Kind: api.QJoin, A: a, B: b, Col: col, Value: value}
}
func union(a, b int) api.Step             { return api.Step{Kind: api.QUnion, A: a, B: b} }
func minus(a, b int) api.Step             { return api.Step{Kind: api.QMinus, A: a, B: b} }
func distinct(a int) api.Step             { return api.Step{Kind: api.QDistinct, A: a} }
func count(a, col int) api.Step           { return api.Step{Kind: api.QCount, A: a, Col: col} }
func sum(a, col, value int) api.Step      { return api.Step{Kind: api.QSum, A: a, Col: col, Value: value} }
func query(steps ...api.Step) []api.Step  { return steps }
func repeat(s api.Step, n int) []api.Step { return slices.Repeat([]api.Step{s}, n) }
func from(first, last int) (l []int) {
	for i := first; i <= last; i++ {
		l = append(l, i)
	}
	return l
}

// fourAhead: steps of the widths 4, 2, 1 and 8.
func fourAhead() []api.Step {
	return query(tableOf(0), count(0, 3), pick(0, 2), join(0, 0, 0, 0))
}

// noneBut: are the numbers that a kind doesn't tell 0, and is its list empty?
func noneBut(s api.Step, b, col, op, value, list bool) bool {
	return (b || s.B == 0) && (col || s.Col == 0) && (op || s.Op == 0) && (value || s.Value == 0) && (list || len(s.List) == 0)
}

// model: the width of a step behind those of these widths, -1 if it may not stand there.
func model(s api.Step, w []int) int {
	in := func(n, last int) bool { return 0 <= n && n <= last }
	const no = false
	const yes = true
	a, b := -1, -1
	if in(s.A, len(w)-1) {
		a = w[s.A]
	}
	if in(s.B, len(w)-1) {
		b = w[s.B]
	}
	ok, width := false, 0
	switch s.Kind {
	case 1:
		ok, width = noneBut(s, no, no, no, no, no) && in(s.A, 1), 4
	case 2:
		ok, width = noneBut(s, no, yes, yes, yes, no) && in(s.Col, a-1) && in(s.Op-1, 2) && in(s.Value+1<<30, 1<<31), a
	case 3:
		ok, width = noneBut(s, no, no, no, no, yes) && in(len(s.List)-1, 7), len(s.List)
		for _, n := range s.List {
			ok = ok && in(n, a-1)
		}
	case 4:
		ok, width = noneBut(s, yes, yes, no, yes, no) && in(s.Col, a-1) && in(s.Value, b-1) && a+b <= 8, a+b
	case 5, 6:
		ok, width = noneBut(s, yes, no, no, no, no) && a > 0 && a == b, a
	case 7:
		ok, width = noneBut(s, no, no, no, no, no) && a > 0, a
	case 8:
		ok, width = noneBut(s, no, yes, no, no, no) && in(s.Col, a-1), 2
	case 9:
		ok, width = noneBut(s, no, yes, no, yes, no) && in(s.Col, a-1) && in(s.Value, a-1), 2
	}
	if !ok {
		return -1
	}
	return width
}

// eachStep: steps of all kinds, and of some that there are none of, with numbers within and beyond their bounds.
func eachStep(do func(s api.Step)) {
	lists := [][]int{nil, {}, {0}, {0, 0}, {1, 0, 1}, {3, 0}, {4}, {-1}, {0, 8}, {7, 0}, {0, 0, 0, 0, 0, 0, 0, 0}, {0, 0, 0, 0, 0, 0, 0, 0, 0}}
	values := []int{-1<<30 - 1, -1 << 30, -1, 0, 1, 2, 3, 4, 7, 8, 1 << 30, 1<<30 + 1}
	for kind := -1; kind <= 10; kind++ {
		for a := -1; a <= 4; a++ {
			for b := -1; b <= 4; b++ {
				for _, col := range []int{-1, 0, 1, 2, 3, 4, 7, 8} {
					for op := -1; op <= 4; op++ {
						for _, value := range values {
							do(api.Step{Kind: kind, A: a, B: b, Col: col, Op: op, Value: value})
						}
						for _, list := range lists {
							do(api.Step{Kind: kind, A: a, B: b, Col: col, Op: op, List: list})
						}
					}
				}
				for _, value := range values {
					do(api.Step{Kind: kind, A: a, B: b, Value: value, List: []int{0}})
				}
			}
		}
	}
}

// P10: what may stand in a query, and how wide it is, of each step behind steps of the widths 4, 2, 1 and 8.
func TestEachStep(t *testing.T) {
	q := fourAhead()
	widths := []int{4, 2, 1, 8}
	taken := make([]int, 11)
	eachStep(func(s api.Step) {
		want := model(s, widths)
		one := append(q[:4:4], s)
		n, e := Width(one, 4)
		if want < 0 && (n != 0 || e != api.ErrArg || Check(one) != api.ErrArg) {
			t.Fatal(s, n, e, Check(one))
		}
		if want < 0 {
			return
		}
		if n != want || e != api.OK || Check(one) != api.OK {
			t.Fatal(s, n, e, Check(one), want)
		}
		taken[s.Kind]++
	})
	// Without steps of each kind that may stand there the test would tell nothing.
	for kind := api.QTable; kind <= api.QSum; kind++ {
		if taken[kind] == 0 {
			t.Error("none of kind", kind)
		}
	}
	if taken[0] != 0 || taken[10] != 0 {
		t.Error(taken)
	}
}

// P10: a step's own number, and those behind it, aren't ahead of it, and no step of the first place needs one.
func TestStepsAhead(t *testing.T) {
	for at := range 5 {
		for a := -1; a <= 6; a++ {
			of := []api.Step{where(a, 0, 1, 0), pick(a, 0), distinct(a), count(a, 0), sum(a, 0, 0)}
			if at > 0 {
				of = append(of, join(a, 0, 0, 0), join(0, a, 0, 0), union(a, 0), union(0, a), minus(a, 0), minus(0, a))
			} else {
				of = append(of, join(a, a, 0, 0), union(a, a), minus(a, a))
			}
			for _, s := range of {
				want := api.ErrArg
				if a >= 0 && a < at {
					want = api.OK
				}
				if e := Check(append(repeat(tableOf(0), at), s, tableOf(1), tableOf(1))); e != want {
					t.Error(at, s, e)
				}
			}
		}
	}
}

// P10: how many steps, and which error comes first.
func TestCheckOrder(t *testing.T) {
	for n, q := range map[api.Errno][][]api.Step{
		api.OK: {
			query(tableOf(0)), query(tableOf(1)), repeat(tableOf(0), 8), append(repeat(tableOf(0), 7), pick(6, from(0, 3)...)),
			query(tableOf(0), join(0, 0, 3, 3), pick(1, from(0, 7)...), distinct(2)),
			query(tableOf(0), where(0, 3, api.OLess, 1<<30), where(1, 0, api.OEqual, -1<<30)),
			{{Kind: api.QTable, List: []int{}}},
		},
		api.ErrArg: {
			nil, {}, {{}}, query(tableOf(2)), query(tableOf(-1)), append(repeat(tableOf(0), 7), tableOf(2)),
			query(tableOf(2), tableOf(0)), {{Kind: 10}}, {{Kind: -1}}, query(distinct(0)),
			query(tableOf(0), where(0, 0, 1, 1<<30+1)), query(tableOf(0), where(0, 0, 1, -1<<30-1)),
			query(tableOf(0), where(0, 0, 1, math.MaxInt)), query(tableOf(0), where(0, 0, 1, math.MinInt)),
			query(tableOf(0), where(0, 0, 0, 1)), query(tableOf(0), where(0, 0, 4, 1)),
			query(tableOf(0), pick(0)), query(tableOf(0), pick(0, make([]int, 9)...)), query(tableOf(0), pick(0, make([]int, 5000)...)),
			query(tableOf(0), join(0, 0, 0, 0), join(1, 0, 0, 0)), query(tableOf(0), join(0, 0, 0, 0), join(0, 1, 0, 0)),
			query(tableOf(0), count(0, 0), union(0, 1)), query(tableOf(0), count(0, 0), minus(1, 0)),
			query(tableOf(0), count(0, 0), sum(1, 0, 2)), query(tableOf(0), count(0, 0), join(1, 0, 2, 0)),
		},
		api.ErrLarge: {
			repeat(tableOf(0), 9), make([]api.Step, 9), repeat(tableOf(2), 100), repeat(api.Step{Kind: math.MaxInt}, 1000),
		},
	} {
		for _, q := range q {
			if e := Check(q); e != n {
				t.Error(q, e, "is not", n)
			}
		}
	}
}

// P10: widths, and steps that there are none of.
func TestWidth(t *testing.T) {
	q := query(tableOf(1), count(0, 3), pick(0, 2), join(0, 1, 3, 1), join(3, 2, 5, 0), pick(4, 6, 6, 6), where(5, 2, 3, 9), distinct(3))
	for i, want := range []int{4, 2, 1, 6, 7, 3, 3, 6} {
		if n, e := Width(q, i); n != want || e != api.OK {
			t.Error(i, n, e)
		}
	}
	for _, i := range []int{-1, 8, 9, math.MinInt, math.MaxInt} {
		if n, e := Width(q, i); n != 0 || e != api.ErrNone {
			t.Error(i, n, e)
		}
	}
	if n, e := Width(q[:3], 3); n != 0 || e != api.ErrNone {
		t.Error(n, e)
	}
	for _, i := range []int{-1, 0, 1, 9} {
		if n, e := Width(nil, i); n != 0 || e != api.ErrArg {
			t.Error(i, n, e)
		}
		if n, e := Width(query(tableOf(0), distinct(1)), i); n != 0 || e != api.ErrArg {
			t.Error(i, n, e)
		}
		if n, e := Width(repeat(tableOf(0), 9), i); n != 0 || e != api.ErrLarge {
			t.Error(i, n, e)
		}
	}
}

// P1: no call panics, whatever numbers a step has.
func TestNoPanic(t *testing.T) {
	numbers := []int{math.MinInt, math.MinInt + 1, -1 << 31, -1, 0, 1, 2, 9, 1 << 32, math.MaxInt - 1, math.MaxInt}
	for kind := -1; kind <= 10; kind++ {
		for _, m := range numbers {
			for _, n := range numbers {
				for _, s := range []api.Step{
					{Kind: kind, A: m, B: n},
					{Kind: kind, Col: m, Value: n},
					{Kind: kind, Col: m, Op: n, Value: m},
					{Kind: kind, List: []int{m, n}},
					{Kind: m, A: n, B: m, Col: n, Op: m, Value: n, List: []int{n}},
				} {
					for _, q := range [][]api.Step{{s}, query(tableOf(0), s), query(tableOf(0), s, s), repeat(s, 9)} {
						e := Check(q)
						text, f := Print(q)
						width, g := Width(q, 0)
						if f != e || g != e || (text == "") != (e != api.OK) || (width == 0) != (e != api.OK) {
							t.Fatal(q, e, text, f, width, g)
						}
					}
				}
			}
		}
	}
}

// room: a list with room behind it that is written full.
func room(l ...int) []int {
	return append(append([]int(nil), l...), -77, -77)[:len(l)]
}

// P2: queries that are handed in stay as they are, the room behind their lists included.
func TestHandedIn(t *testing.T) {
	list, other := room(3, 0, 3), room(2)
	q := append(query(tableOf(0), pick(0, list...), pick(1, other...)), tableOf(-7), tableOf(-7))[:3]
	for _, q := range [][]api.Step{q, q[:2], append(q, distinct(9))[:3], q[1:]} {
		Check(q)
		Width(q, 1)
		Print(q)
	}
	if !slices.Equal(list[:5], []int{3, 0, 3, -77, -77}) || !slices.Equal(other[:3], []int{2, -77, -77}) {
		t.Error(list[:5], other[:3])
	}
	if q[0].Kind != api.QTable || q[:5][4].A != -7 || q[1].A != 0 || q[2].A != 1 {
		t.Error(q[:5])
	}
}
