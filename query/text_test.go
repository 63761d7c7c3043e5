package query

import (
	"math"
	"regexp"
	"slices"
	"strings"
	"testing"

	"viewmere/api"
)

// same: are two queries the same, an empty list being as good as none?
func same(a, b []api.Step) bool {
	return slices.EqualFunc(a, b, func(x, y api.Step) bool {
		return x.Kind == y.Kind && x.A == y.A && x.B == y.B && x.Col == y.Col && x.Op == y.Op && x.Value == y.Value && slices.Equal(x.List, y.List)
	})
}

// P11: the line of each kind, written and read.
func TestLines(t *testing.T) {
	for _, x := range []struct {
		ahead string
		step  api.Step
		line  string
	}{
		{"", tableOf(0), "table 0"},
		{"", tableOf(1), "table 1"},
		{"table 0\n", where(0, 1, api.OMore, -3), "where 0 1 > -3"},
		{"table 0\n", where(0, 3, api.OLess, 1<<30), "where 0 3 < 1073741824"},
		{"table 0\n", where(0, 0, api.OEqual, -1<<30), "where 0 0 = -1073741824"},
		{"table 0\n", where(0, 2, api.OEqual, 0), "where 0 2 = 0"},
		{"table 0\n", pick(0, 3), "pick 0 3"},
		{"table 0\n", pick(0, 3, 0, 3, 1, 2, 0, 0, 2), "pick 0 3,0,3,1,2,0,0,2"},
		{"table 0\ntable 1\n", pick(1, 0, 3), "pick 1 0,3"},
		{"table 0\ncount 0 1\n", join(0, 1, 3, 1), "join 0 1 3 1"},
		{"table 0\ncount 0 1\n", join(1, 0, 1, 3), "join 1 0 1 3"},
		{"table 0\ntable 1\n", union(0, 1), "union 0 1"},
		{"table 0\ntable 1\n", union(1, 0), "union 1 0"},
		{"table 0\ntable 1\n", minus(0, 1), "minus 0 1"},
		{"table 0\ntable 1\n", minus(1, 0), "minus 1 0"},
		{"table 0\ntable 1\n", distinct(1), "distinct 1"},
		{"table 0\ntable 1\n", count(1, 3), "count 1 3"},
		{"table 0\ntable 1\n", sum(1, 3, 2), "sum 1 3 2"},
	} {
		q, at, e := Parse(x.ahead + x.line + "\n")
		if e != api.OK || at != 0 || len(q) == 0 || !same(q[len(q)-1:], query(x.step)) {
			t.Error(x.line, q, at, e)
			continue
		}
		if s, e := Print(append(q[:len(q)-1], x.step)); e != api.OK || s != x.ahead+x.line+"\n" {
			t.Error(x.line, s, e)
		}
	}
}

// P11: whatever Check takes is written, and read again as it was; what it doesn't take is not written.
func TestThereAndBack(t *testing.T) {
	q, n := fourAhead(), 0
	eachStep(func(s api.Step) {
		one := append(q[:4:4], s)
		want := Check(one)
		text, e := Print(one)
		if e != want || e != api.OK && text != "" {
			t.Fatal(s, text, e)
		}
		if e != api.OK {
			return
		}
		again, at, e := Parse(text)
		if e != api.OK || at != 0 || !same(again, one) {
			t.Fatal(text, again, at, e)
		}
		n++
	})
	if n == 0 {
		t.Error("nothing was written")
	}
	for want, l := range map[api.Errno][][]api.Step{
		api.ErrArg:   {nil, {}, {{}}, query(tableOf(0), tableOf(2)), query(distinct(0))},
		api.ErrLarge: {repeat(tableOf(0), 9), repeat(tableOf(5), 9)},
	} {
		for _, q := range l {
			if text, e := Print(q); text != "" || e != want {
				t.Error(q, text, e)
			}
		}
	}
}

// wrongLines: lines that are none of a query.
var wrongLines = []string{
	"", " ", "  ", "x", "0", "table", "table ", " table 0", "table  0", "table 0 ", "table 0 0", "table\t0", "table 0\r", "table0",
	"Table 0", "TABLE 0", "tables 0", "tabl 0", "table a", "table 0x0", "table 1e0", "table 1.0", "table 1_0", "table ٣", "table 0\x00",
	"table 00", "table 01", "table -0", "table -00", "table -01", "table +1", "table +0", "table -", "table --1", "table - 1", "table 1-",
	"table 12345678901", "table -12345678901", "table 01234567890", "table 99999999999999999999", "table 0,1", "table ,", "table 0,",
	"where 0 1 2", "where 0 1 2 3", "where 0 1 <", "where 0 1 < ", "where 0 1  3", "where 0 1 ? 3", "where 0 1 <= 3", "where 0 1 <> 3",
	"where 0 1 == 3", "where 0 1 1 3", "where 0 < 1 3", "where 0 1 3 <", "where 0 1 < 3 4", "where 0 1 < 3,4", "where 0 1 < +3", "where 0 1 <3",
	"where 0 1 < - 3", "where 0 1 < -03", "where 0 1 < 10000000000", "where 0 01 < 1", "where 00 1 < 1", "where 0 1 < <", "where < < < <",
	"pick 0", "pick 0 ", "pick 0 ,", "pick 0 0,", "pick 0 ,0", "pick 0 0,,1", "pick 0 0, 1", "pick 0 0 1", "pick 0 0;1", "pick 0 0,01",
	"pick 0 0,-0", "pick 0 0,x", "pick 0 0,12345678901", "pick 0,1", "pick 0,1 0", "pick  0,1", "pick 0 0,1 ", "pick 0 0,<",
	"join 0 0 0", "join 0 0 0 0 0", "join 0 0 0,0", "join 0 0 0 0,0", "join 0 0 = 0", "join", "union 0", "union 0 0 0", "union 0,0", "union",
	"minus 0", "minus 0 0 0", "minus -0 0", "minus", "distinct", "distinct 0 0", "distinct x", "count 0", "count 0 0 0", "count", "sum 0 0",
	"sum 0 0 0 0", "sum", "sum 0 0 00", "#", "# table 0", "table 0 # all", "eval 0", "\xff", "table \xff", "table 0;table 0",
}

// P11: a line that is none such is told by its number, wherever it stands.
func TestWrongLines(t *testing.T) {
	for _, line := range wrongLines {
		for n := range 12 {
			ahead := strings.Repeat("table 0\n", n)
			for _, text := range []string{line + "\n", line + "\ntable 0\n", line + "\n" + line + "\n", line + "\ntable 9\n", line + "\ntable 0"} {
				if q, at, e := Parse(ahead + text); q != nil || at != n+1 || e != api.ErrSyntax {
					t.Fatalf("%q: %v %d %d", ahead+text, q, at, e)
				}
			}
		}
	}
	// Each line ends with a byte 10, the last one, too; what stands ahead of it may be what Check would not take.
	for text, want := range map[string]int{
		"table 0": 1, "table 0\ntable 0": 2, "t": 1, " ": 1, "table 0\n ": 2, "table 7\ndistinct 9\nx\n": 3, "pick 0 9\n\n": 2,
		"table 0\n\ntable 0\n": 2, "\ntable 0\n": 1, "\n": 1, "\n\n": 1, "table 0\r\n": 1, "table 0\rtable 0\n": 1,
		strings.Repeat("table 0\n", 60) + "table 0": 61,
	} {
		if q, at, e := Parse(text); q != nil || at != want || e != api.ErrSyntax {
			t.Errorf("%q: %v %d %d", text, q, at, e)
		}
	}
}

// P11: what can be read, and is no query, has Check's error at 0.
func TestReadButNoQuery(t *testing.T) {
	for text, want := range map[string]api.Errno{
		"":                                    api.ErrArg,
		"table 2\n":                           api.ErrArg,
		"table -1\n":                          api.ErrArg,
		"table 9999999999\n":                  api.ErrArg,
		"table -9999999999\n":                 api.ErrArg,
		"distinct 0\n":                        api.ErrArg,
		"table 0\nwhere 0 -1 < 0\n":           api.ErrArg,
		"table 0\nwhere 0 4 < 0\n":            api.ErrArg,
		"table 0\nwhere 0 0 < 1073741825\n":   api.ErrArg,
		"table 0\nwhere 0 0 < -1073741825\n":  api.ErrArg,
		"table 0\nwhere 0 0 < 4294967296\n":   api.ErrArg,
		"table 0\npick 0 4\n":                 api.ErrArg,
		"table 0\npick 0 -1\n":                api.ErrArg,
		"table 0\npick 0 0,0,0,0,0,0,0,0,0\n": api.ErrArg,
		"table 0\njoin 0 1 0 0\n":             api.ErrArg,
		"table 0\nunion 1 0\n":                api.ErrArg,
		"table 0\nminus 0 -1\n":               api.ErrArg,
		"table 0\ncount 0 4\n":                api.ErrArg,
		"table 0\nsum 0 0 4\n":                api.ErrArg,
		strings.Repeat("table 0\n", 9):        api.ErrLarge,
		strings.Repeat("table 5\n", 9):        api.ErrLarge,
		strings.Repeat("table 0\n", 128):      api.ErrLarge,
	} {
		if q, at, e := Parse(text); q != nil || at != 0 || e != want {
			t.Errorf("%q: %v %d %d", text, q, at, e)
		}
	}
	if q, at, e := Parse(strings.Repeat("table 1\n", 8)); e != api.OK || at != 0 || !same(q, repeat(tableOf(1), 8)) {
		t.Error(q, at, e)
	}
}

// P11: how long a text may be: that comes first.
func TestLongTexts(t *testing.T) {
	for _, c := range []string{"x", "\n", " ", "table 0\n", "table 0", "\xff"} {
		text := strings.Repeat(c, 2000/len(c))
		if q, at, e := Parse(text[:1025]); q != nil || at != 0 || e != api.ErrLarge {
			t.Errorf("%q: %v %d %d", c, q, at, e)
		}
		if q, at, e := Parse(text); q != nil || at != 0 || e != api.ErrLarge {
			t.Errorf("%q: %v %d %d", c, q, at, e)
		}
		if _, _, e := Parse(text[:1024]); c != "table 0\n" && e != api.ErrSyntax {
			t.Errorf("%q: %d", c, e)
		}
	}
	// 1024 bytes that can be read, and one more.
	if q, at, e := Parse("table 0\npick 0 10" + strings.Repeat(",0", 503) + "\n"); q != nil || at != 0 || e != api.ErrArg {
		t.Error(q, at, e)
	}
	if q, at, e := Parse("table 0\npick 0 100" + strings.Repeat(",0", 503) + "\n"); q != nil || at != 0 || e != api.ErrLarge {
		t.Error(q, at, e)
	}
	// A good query with a line behind it that makes it 1025 bytes long.
	if q, at, e := Parse("table 0\n" + strings.Repeat("x", 1017)); q != nil || at != 0 || e != api.ErrLarge {
		t.Error(q, at, e)
	}
	if q, at, e := Parse("table 0\n" + strings.Repeat("x", 1016)); q != nil || at != 2 || e != api.ErrSyntax {
		t.Error(q, at, e)
	}
}

// lineForm: the form of all lines, as a pattern.
var lineForm = func() *regexp.Regexp {
	form := "table N|where N N [<=>] N|pick N N(,N)*|join N N N N|union N N|minus N N|distinct N|count N N|sum N N N"
	return regexp.MustCompile("^(?:" + strings.ReplaceAll(form, "N", "(?:0|-?[1-9][0-9]{0,9})") + ")$")
}()

// firstWrong: the first line of a text that is none such, 0 if all are.
func firstWrong(text string) int {
	lines := strings.SplitAfter(text, "\n")
	for i, line := range lines {
		if line == "" && i == len(lines)-1 {
			break
		}
		// The pattern's $ would take a byte 10, too.
		if !strings.HasSuffix(line, "\n") || !lineForm.MatchString(strings.TrimSuffix(line, "\n")) {
			return i + 1
		}
	}
	return 0
}

// P11: texts that are wrong by a byte: what is read is what would be written, all else is told by its line.
func TestTextsWrongByAByte(t *testing.T) {
	text := "table 0\nwhere 0 2 > -5\npick 1 0,3\njoin 2 2 1 0\nunion 0 1\nminus 2 2\ncount 3 10\nsum 4 2 1\n"
	check := func(text string) {
		q, at, e := Parse(text)
		wrong := firstWrong(text)
		if (e == api.ErrSyntax) != (wrong > 0) || at != wrong || e != api.OK && q != nil {
			t.Fatalf("%q: %v %d %d, not %d", text, q, at, e, wrong)
		}
		if e == api.OK {
			if again, f := Print(q); f != api.OK || again != text {
				t.Fatalf("%q: %v is %q", text, q, again)
			}
		}
	}
	for i := range len(text) + 1 {
		for _, c := range "\x00\n\r\t +-,.019<=>?AZ_abcdefghijklmnopqrstuvwxyz\u0661" {
			check(text[:i] + string(c) + text[i:])
			if i < len(text) {
				check(text[:i] + string(c) + text[i+1:])
			}
		}
		check(text[:i])
		check(text[i:])
		for j := i; j <= len(text); j++ {
			check(text[:i] + text[j:])
		}
	}
}

// P11: a number has one to ten digits, with or without a - ahead.
func TestNumbers(t *testing.T) {
	for digits := 1; digits <= 30; digits++ {
		for _, sign := range []string{"", "-"} {
			for _, d := range []string{"1", "9"} {
				want, at := api.ErrArg, 0
				if digits > 10 {
					want, at = api.ErrSyntax, 2
				} else if digits < 10 {
					want = api.OK
				}
				number := sign + strings.Repeat(d, digits)
				if digits == 10 && d == "1" {
					number = sign + "1073741824"
					want = api.OK
				}
				if _, n, e := Parse("table 0\nwhere 0 0 < " + number + "\n"); n != at || e != want {
					t.Error(number, n, e)
				}
			}
		}
	}
}

// A number of a desk's lines has fewer digits.
func TestNumberOfFewerDigits(t *testing.T) {
	for word, want := range map[string]int{"0": 0, "7": 7, "-7": -7, "999999": 999999, "-999999": -999999, "100000": 100000} {
		if n, ok := Number(word, 6); !ok || n != want {
			t.Error(word, n, ok)
		}
	}
	for _, word := range []string{"", "-", "-0", "00", "01", "-01", "+1", "1000000", "-1000000", "0000001", "x", " 1", "1 ", "1_0", "--1"} {
		if n, ok := Number(word, 6); ok || n != 0 {
			t.Error(word, n, ok)
		}
	}
}

// P1: any bytes are answered.
func TestAnyBytes(t *testing.T) {
	words := []string{"table", "where", "pick", "join", " ", "\n", "0", "-", ",", "<", "1", "\xff", "\x00", "é"}
	seed := 1
	for range 20000 {
		text := ""
		for range 1 + seed%17 {
			seed = (seed*1103515245 + 12345) & math.MaxInt32
			text += words[seed>>8%len(words)]
		}
		q, at, e := Parse(text)
		if wrong := firstWrong(text); at != wrong || (e == api.ErrSyntax) != (wrong > 0) || e != api.OK && q != nil {
			t.Fatalf("%q: %v %d %d", text, q, at, e)
		}
	}
}

// P2: the lists of an answer are apart, from one another and from those of other answers, spare room included.
func TestAnswersApart(t *testing.T) {
	text := "table 0\npick 0 3,2,1\npick 1 2,1,0\npick 1 0\nunion 1 2\n"
	want := query(tableOf(0), pick(0, 3, 2, 1), pick(1, 2, 1, 0), pick(1, 0), union(1, 2))
	one, _, _ := Parse(text)
	two, _, _ := Parse(text)
	for i := range one {
		list := one[i].List[:cap(one[i].List)]
		for j := range list {
			list[j] = -99
		}
		for j := i + 1; j < len(one); j++ {
			if !same(one[j:j+1], want[j:j+1]) {
				t.Error(i, j, one)
			}
		}
	}
	one = one[:cap(one)]
	for i := range one {
		one[i] = api.Step{Kind: -9}
	}
	if !same(two, want) {
		t.Error(two)
	}
	if three, at, e := Parse(text); e != api.OK || at != 0 || !same(three, want) {
		t.Error(three, at, e)
	}
}
