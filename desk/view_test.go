package desk

import (
	"slices"
	"strconv"
	"strings"
	"testing"
)

// P22: query writes a line of its words, with one blank between; show tells the query as it is printed.
func TestShow(t *testing.T) {
	says(t, "query table 0\nquery   where  0 1   >  -3 \nshow\nshow\n", "ok", "ok", "table 0", "where 0 1 > -3", "ok", "table 0", "where 0 1 > -3", "ok")
	says(t, "query table 0\nquery pick 0 3,0\nquery join 1 1 0 0\nquery union 2 0\nquery minus 3 3\nquery distinct 4\nquery count 5 3\nquery sum 5 1 0\nshow\n",
		"ok", "ok", "ok", "ok", "ok", "ok", "ok", "ok",
		"table 0", "pick 0 3,0", "join 1 1 0 0", "union 2 0", "minus 3 3", "distinct 4", "count 5 3", "sum 5 1 0", "ok")
	says(t, "show\n", "error 1 0")
	says(t, "query table 0\nshow\nclear\nshow\nquery table 1\nshow\n", "ok", "table 0", "ok", "ok", "error 1 0", "ok", "table 1", "ok")
}

// P22: a text that isn't read is told with its line; query itself takes any words.
func TestWrongTexts(t *testing.T) {
	for _, x := range []struct {
		lines []string
		want  string
	}{
		{nil, "error 1 0"},
		{[]string{"x"}, "error 3 1"},
		{[]string{"#"}, "error 3 1"},
		{[]string{"query table 0"}, "error 3 1"},
		{[]string{"table 0", "x y z"}, "error 3 2"},
		{[]string{"table 0", "table 1", "union 0 1 2", "x"}, "error 3 3"},
		{[]string{"table 2"}, "error 1 0"},
		{[]string{"table 0", "distinct 1"}, "error 1 0"},
		{[]string{"table 00"}, "error 3 1"},
		{[]string{"table\t0"}, "error 3 1"},
		{[]string{"table 0\r"}, "error 3 1"},
		{[]string{"\xff\x00"}, "error 3 1"},
		{[]string{"table 0", "where 0 1 < 12345678901"}, "error 3 2"},
		{slices.Repeat([]string{"table 0"}, 9), "error 2 0"},
		{append(slices.Repeat([]string{"table 0"}, 9), "x"), "error 3 10"},
		{append(slices.Repeat([]string{"table 7"}, 99), "table"), "error 3 100"},
		// Of no words: a line that is empty.
		{[]string{""}, "error 3 1"},
		{[]string{"table 0", ""}, "error 3 2"},
	} {
		var lines [][]string
		for _, s := range x.lines {
			lines = append(lines, line("query "+s, "ok"))
		}
		talk(t, append(lines, line("show", x.want), line("view 0", x.want), line("show", x.want), line("see 0 0", "error 4"))...)
	}
	says(t, "query\nshow\nview 3\n", "ok", "error 3 1", "error 3 1")
}

// P22: how long the query's text may be.
func TestLongText(t *testing.T) {
	x := func(n int) string { return strings.Repeat("x", n) }
	// With the byte 10 behind it.
	says(t, script("query "+x(1023), "show"), "ok", "error 3 1")
	says(t, script("query "+x(1024), "show"), "error 2", "error 1 0")
	says(t, script("query "+x(60000), "show"), "error 2", "error 1 0")
	says(t, script("query "+x(1023), "query", "query x", "show", "clear", "query x", "show"), "ok", "error 2", "error 2", "error 3 1", "ok", "ok", "error 3 1")
	// A line that has no room changes nothing; a shorter one has room still.
	says(t, script("query table 0", "query "+x(1016), "show", "query "+x(1015), "show", "query", "show"),
		"ok", "error 2", "table 0", "ok", "ok", "error 3 2", "error 2", "error 3 2")
	// Blanks of the line that aren't in the text aren't counted; those between its words are.
	says(t, script("query "+strings.Repeat(" ", 2000)+"table   0"+strings.Repeat(" ", 2000), "show"), "ok", "table 0", "ok")
	says(t, script("query"+strings.Repeat("  x", 512), "show"), "ok", "error 3 1")
	says(t, script("query"+strings.Repeat("  x", 511)+" xx", "query", "show"), "error 2", "ok", "error 3 1")
	// 128 lines of 8 bytes.
	var lines [][]string
	for range 128 {
		lines = append(lines, line("query table 0", "ok"))
	}
	lines = append(lines, line("query table 0", "error 2"), line("query", "error 2"), line("show", "error 2 0"), line("view 1", "error 2 0"))
	talk(t, lines...)
}

// P22: a view is of the text as it was then, and turns with its node alone.
func TestView(t *testing.T) {
	talk(t, slices.Concat(
		done("put 1 0 3 0 7", "query table 0", "view 1", "query count 0 1", "view 1", "clear", "query table 1", "view 2"),
		[][]string{
			line("see 1 0", "3 7 0 0", "ok"), line("see 1 1", "7 1", "ok"), line("see 2 0", "ok"),
			line("put 1 0 4 0 7", "ok"), line("put 1 1 4 0 7", "ok"),
			line("see 1 0", "3 7 0 0", "4 7 0 0", "ok"), line("see 1 1", "7 2", "ok"), line("see 2 0", "ok"),
			line("send 1 2", "ok"), line("take 0", "ok"), line("see 2 0", "4 7 0 0", "ok"),
			line("del 2 1 4", "ok"), line("see 2 0", "ok"), line("meet", "ok"), line("see 1 1", "7 2", "ok"),
		})...)
}

// P22: errors of view: of the node, then of the text, with its line, then of the room.
func TestWrongView(t *testing.T) {
	var lines [][]string
	for _, id := range []string{"4", "-1", "999999"} {
		lines = append(lines, line("view "+id, "error 4"))
	}
	lines = append(lines, line("view 0", "error 1 0"), line("query x", "ok"))
	for _, id := range []string{"4", "-1", "-999999"} {
		lines = append(lines, line("view "+id, "error 4"))
	}
	lines = append(lines, line("view 0", "error 3 1"), line("clear", "ok"), line("query table 0", "ok"))
	lines = append(lines, done("view 0", "view 0", "view 0", "view 0")...)
	lines = append(lines, line("view 0", "error 2"), line("view 4", "error 4"), line("view 1", "ok"),
		line("query x", "ok"), line("view 0", "error 3 2"), line("clear", "ok"), line("view 0", "error 1 0"))
	for range 9 {
		lines = append(lines, line("query table 1", "ok"))
	}
	lines = append(lines, line("view 0", "error 2 0"), line("view 3", "error 2 0"), line("view 4", "error 4"),
		line("see 0 3", "ok"), line("see 0 4", "error 4"), line("see 3 0", "error 4"))
	talk(t, lines...)
}

// P22: see has the further numbers as rank.Rows has its columns.
func TestSeeInOrder(t *testing.T) {
	a, b, c := "1 5 0 2", "2 5 0 1", "3 4 0 2"
	talk(t, slices.Concat(
		done("put 0 0 1 0 5", "put 0 0 1 2 2", "put 0 0 2 0 5", "put 0 0 2 2 1", "put 0 0 3 0 4", "put 0 0 3 2 2", "query table 0", "view 0"),
		[][]string{
			line("see 0 0", a, b, c, "ok"), line("see 0 0 1", a, b, c, "ok"), line("see 0 0 -1", c, b, a, "ok"),
			line("see 0 0 2", c, a, b, "ok"), line("see 0 0 -2", a, b, c, "ok"), line("see 0 0 2 -1", c, b, a, "ok"),
			line("see 0 0 4", b, a, c, "ok"), line("see 0 0 4 2", b, c, a, "ok"), line("see 0 0 -4 2 1", c, a, b, "ok"),
			line("see 0 0 3 -4 -1", c, a, b, "ok"), line("see 0 0 3 3 3 3 3 3 3 -1", c, b, a, "ok"),
			line("see 0 0 3 3 3 3 3 3 3 3 -1", "error 1"), line("see 0 0 0", "error 1"), line("see 0 0 5", "error 1"), line("see 0 0 -5", "error 1"),
			line("see 0 0 1 0", "error 1"), line("see 0 0 999999", "error 1"),
			// Of two calls the first one's error.
			line("see 0 1 0", "error 4"), line("see 4 0 0", "error 4"), line("see -1 0", "error 4"), line("see 0 -1", "error 4"), line("see 1 0 9", "error 4"),
		})...)
}

// P22: without a row the columns are from 1 to 8.
func TestSeeNothing(t *testing.T) {
	talk(t, slices.Concat(done("query table 0", "view 0"), [][]string{
		line("see 0 0 8 -8 1", "ok"), line("see 0 0 9", "error 1"), line("see 0 0 0", "error 1"), line("see 0 0 1 1 1 1 1 1 1 1 1", "error 1"),
	})...)
}

// alike: lines that give rows 0 to n - 1 of node 0's first table the numbers 7 and 8.
func alike(n int) (l [][]string) {
	for key := range n {
		l = append(l, done("put 0 0 "+strconv.Itoa(key)+" 0 7", "put 0 0 "+strconv.Itoa(key)+" 1 8")...)
	}
	return l
}

// asked: lines that make a view of this query for node 0.
func asked(steps ...string) [][]string {
	l := done("clear")
	for _, s := range steps {
		l = append(l, done("query "+s)...)
	}
	return append(l, done("view 0")...)
}

// P22: what see tells of rows that are there many times, 400 at most, or too often.
func TestSeeMany(t *testing.T) {
	rows := func(s string, n int) []string { return slices.Repeat([]string{s}, n) }
	talk(t, slices.Concat(alike(20),
		asked("table 0", "pick 0 1", "join 1 1 0 0", "pick 0 2", "join 3 3 0 0", "union 2 4"),
		asked("table 0", "pick 0 1"),
		[][]string{
			line("see 0 0", append(rows("7 7", 400), "ok")...),
			line("see 0 0 -2", append(rows("8 8", 400), "ok")...),
			line("see 0 1", append(rows("7", 20), "ok")...),
			line("put 0 0 20 0 7", "ok"),
			// 21 times 21 times.
			line("see 0 0", "error 5"), line("see 0 0 9", "error 5"),
			line("see 0 1", append(rows("7", 21), "ok")...),
			line("del 0 0 20", "ok"), line("see 0 0 -1", append(rows("8 8", 400), "ok")...),
		})...)
}

// P22: what see tells of rows that are there fewer than 0 times, and of a query that has an error.
func TestSeeErrors(t *testing.T) {
	talk(t, slices.Concat(alike(20),
		asked("table 1", "table 0", "minus 0 1"),
		asked("table 0", "pick 0 1,0", "pick 0 1,0", "join 1 2 0 0"),
		[][]string{
			line("see 0 0", "error 5"), line("see 0 0 0", "error 5"), line("see 1 0", "error 4"),
			line("put 0 0 30 2 1", "ok"),
			line("put 0 0 21 0 7", "ok"),
			// 21 rows, each with each.
			line("see 0 1", "error 2"), line("see 0 1 9", "error 2"),
			line("rows 0 1", "ok"), line("del 0 0 3", "ok"),
		})...)
	got := Run(script("query table 1", "query table 0", "query minus 0 1", "view 0", "see 0 0", "put 0 0 3 0 1", "see 0 0", "put 0 1 3 0 1", "see 0 0"))
	if want := script("ok", "ok", "ok", "ok", "ok", "ok", "error 5", "ok", "ok"); got != want {
		t.Error(got)
	}
}
