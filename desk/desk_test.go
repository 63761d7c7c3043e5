package desk

import (
	"slices"
	"strconv"
	"strings"
	"testing"

	"viewmere/api"
)

// script: a text of these lines.
func script(lines ...string) string {
	text := ""
	for _, line := range lines {
		text += line + "\n"
	}
	return text
}

// says: a text is answered with these lines.
func says(t *testing.T, text string, want ...string) {
	t.Helper()
	if got := Run(text); got != script(want...) {
		t.Errorf("%q:\n%q, not\n%q", text, got, script(want...))
	}
}

// talk: lines, each with the lines of its answer.
func talk(t *testing.T, l ...[]string) {
	t.Helper()
	var lines, want []string
	for _, x := range l {
		lines = append(lines, x[0])
		want = append(want, x[1:]...)
	}
	says(t, script(lines...), want...)
}

// line: a line, and the lines of its answer.
func line(s string, want ...string) []string { return append([]string{s}, want...) }

// done: lines that are answered with ok alone.
func done(lines ...string) (l [][]string) {
	for _, s := range lines {
		l = append(l, line(s, "ok"))
	}
	return l
}

// P22, the example.
func TestExample(t *testing.T) {
	says(t, "put 0 0 3 1 7\nrows 0 0\n", "ok", "3 0 7 0", "ok")
}

// P22: what a line is.
func TestLines(t *testing.T) {
	says(t, "")
	says(t, "\n")
	says(t, "\n\n\n")
	says(t, "meet", "ok")
	says(t, "meet\n", "ok")
	says(t, "\nmeet\n\nmeet\n\n", "ok", "ok")
	says(t, "meet\nmeet", "ok", "ok")
	says(t, "meet\nx", "ok", "error 3")
	says(t, "meet\n ", "ok")
	says(t, "put 0 0 3 1 7\nrows 0 0", "ok", "3 0 7 0", "ok")
	// A byte 13 is no end of a line, and no blank.
	says(t, "meet\r\nmeet\n", "error 3", "ok")
	says(t, "meet\rmeet\n", "error 3")
	says(t, "put 0 0 3 1 7\r\n", "error 3")
}

// P22: words stand between blanks, however many.
func TestWords(t *testing.T) {
	says(t, "   put  0 0   3 1 7    \n  rows 0 0  \n", "ok", "3 0 7 0", "ok")
	says(t, "       \n ")
	for _, s := range []string{"\tmeet", "meet\t", "\t", "\x00", "meet\x00", "\u00a0meet", "\u2003", "\v", "\f", "\xff", "meet\u0085"} {
		says(t, s+"\nmeet\n", "error 3", "ok")
	}
	says(t, "rows\t0 0\n", "error 3")
	says(t, "rows 0\t0\n", "error 3")
}

// P22: a line whose first word begins with # is not answered, and does nothing.
func TestRemarks(t *testing.T) {
	says(t, "#\n# no\n#no\n  # no\n##\n#put 0 0 3 1 7\n# put 0 0 3 1 7\nrows 0 0\n", "ok")
	says(t, "meet #\nrows 0 0 # all\nx #\n", "error 3", "error 3", "error 3")
	says(t, "query #\nshow\n", "ok", "error 3 1")
}

// P22: how long a text may be.
func TestLongTexts(t *testing.T) {
	says(t, "#"+strings.Repeat(" ", 65534)+"\n")
	says(t, "#"+strings.Repeat(" ", 65535))
	says(t, "#"+strings.Repeat(" ", 65535)+"\n", "error 2")
	says(t, "#"+strings.Repeat(" ", 65536), "error 2")
	says(t, strings.Repeat(" ", 65536))
	says(t, strings.Repeat(" ", 65537), "error 2")
	says(t, strings.Repeat("x", 65536), "error 3")
	says(t, strings.Repeat("x", 65537), "error 2")
	says(t, strings.Repeat("x", 1<<20), "error 2")
	says(t, "meet\n#"+strings.Repeat("x", 65536-6), "ok")
	// Nothing of a text that is too long is done or answered.
	says(t, "meet\n#"+strings.Repeat("x", 65536-5), "error 2")
	says(t, "meet\n"+strings.Repeat("\n", 65536), "error 2")
	// Bytes are counted, whatever they are.
	says(t, strings.Repeat("\u00e9", 32768), "error 3")
	says(t, strings.Repeat("\u00e9", 32768)+" ", "error 2")
}

// P22: how many lines a text may have.
func TestManyLines(t *testing.T) {
	many := func(s string, n int) []string { return slices.Repeat([]string{s}, n) }
	says(t, strings.Repeat("meet\n", 200), many("ok", 200)...)
	says(t, strings.Repeat("meet\n", 201), "error 2")
	says(t, strings.Repeat("meet\n", 199)+"meet", many("ok", 200)...)
	says(t, strings.Repeat("meet\n", 200)+"meet", "error 2")
	says(t, strings.Repeat("meet\n", 200)+" ", "error 2")
	says(t, strings.Repeat("x\n", 200), many("error 3", 200)...)
	// Lines that are not answered are lines, too.
	says(t, strings.Repeat("\n", 199)+"meet\n", "ok")
	says(t, strings.Repeat("\n", 200))
	says(t, strings.Repeat("\n", 201), "error 2")
	says(t, strings.Repeat("# no\n", 200)+"meet\n", "error 2")
	says(t, strings.Repeat("#\n", 200)+"#", "error 2")
	says(t, strings.Repeat("\n", 65536), "error 2")
}

// P22: words that no line begins with.
func TestNoSuchWord(t *testing.T) {
	for _, word := range []string{"x", "puts", "pu", "Put", "PUT", "put0", "edit", "ok", "error", "Meet", "take0", "table", "count", "queryx",
		"-", "0", "1", "help", "quit", "rows,", "see:", "viewmere", "diff-", "sends", "\"meet\"", "meet;", "show#"} {
		for _, rest := range []string{"", " 0", " 0 0", " 0 0 0", " 0 0 0 0", " 0 0 0 0 0", " table 0"} {
			says(t, word+rest+"\nmeet\n", "error 3", "ok")
		}
	}
}

// P22: as many words as stand in the table, no other number of them.
func TestHowManyWords(t *testing.T) {
	for word, right := range map[string][]int{
		"clear": {0}, "show": {0}, "put": {5}, "del": {3}, "send": {2}, "diff": {2}, "take": {1}, "view": {1}, "rows": {2},
		"see": {2, 3, 4, 5, 6, 7, 8, 9, 10, 11, 12}, "meet": {0},
	} {
		for n := range 13 {
			text := word + strings.Repeat(" 1", n)
			// Ahead of it there is all that a right line asks for.
			got := Run("query table 0\nput 1 1 1 1 1\nview 1\nview 1\nsend 1 1\nsend 1 1\n" + text + "\n")
			wrong := strings.HasSuffix(got, "error 3\n")
			if wrong == slices.Contains(right, n) {
				t.Errorf("%q: %q", text, got)
			}
		}
	}
	// What is no number is no word of such a line, either.
	for _, s := range []string{"clear all", "show 0", "meet x", "clear #", "take", "take x", "view x", "see 0 0 x", "see x 0", "see 0 x",
		"see 0", "see", "rows x 0", "rows 0 x", "put 0 0 3 1 x", "put x 0 3 1 7", "del 0 0 x", "send 0 x", "diff x 0", "see 0 0 1,2"} {
		says(t, script("query table 0", "view 0", s, "meet"), "ok", "ok", "error 3", "ok")
	}
}

// P22: what is a number, and what isn't.
func TestNumbers(t *testing.T) {
	for _, s := range []string{"0", "1", "9", "10", "49", "50", "-1", "-9", "-10", "100000", "999999", "-999999", "123456", "-100001"} {
		got := Run("put 0 0 3 1 " + s + "\n")
		n, err := strconv.Atoi(s)
		want := "ok\n"
		if n < -1000 || n > 1000 {
			want = "error 1\n"
		}
		if err != nil || got != want {
			t.Errorf("%q: %q", s, got)
		}
	}
	for _, s := range []string{"-0", "00", "01", "-01", "-00", "007", "+1", "+0", "-", "--1", "-+1", "1-", "1000000", "-1000000", "9999999",
		"0000001", "0000000", "-0000001", "12345678901234567890", "1.0", "1e2", "0x1", "1_0", "1,0", "a", "1a", "a1", "\u0661", "\uff11",
		"1\x00", "\xff", "#", "#1", "1#", "''", "\t1", "1\t", "inf", "nan", "NaN", "²"} {
		for _, x := range []string{"put 0 0 3 1 N", "put N 0 3 1 7", "put 0 N 3 1 7", "put 0 0 N 1 7", "put 0 0 3 N 7", "del N 0 3", "del 0 N 3",
			"del 0 0 N", "send N 0", "send 0 N", "diff N 0", "diff 0 N", "take N", "view N", "rows N 0", "rows 0 N", "see N 0", "see 0 N", "see 0 0 N",
			"see 0 0 1 N"} {
			text := strings.ReplaceAll(x, "N", s)
			says(t, script("query table 0", "view 0", text, "rows 0 0"), "ok", "ok", "error 3", "ok")
		}
	}
}

// P22: which number of put is which.
func TestPut(t *testing.T) {
	talk(t, slices.Concat(
		done("put 1 0 3 2 -7", "put 1 1 49 0 1000", "put 3 1 0 1 -1000", "put 1 0 3 0 5", "put 1 0 3 0 6"),
		[][]string{
			line("rows 0 0", "ok"), line("rows 0 1", "ok"),
			line("rows 1 0", "3 6 0 -7", "ok"), line("rows 1 1", "49 1000 0 0", "ok"),
			line("rows 2 0", "ok"), line("rows 2 1", "ok"),
			line("rows 3 0", "ok"), line("rows 3 1", "0 0 -1000 0", "ok"),
		})...)
}

// P22: errors of put, and nothing is changed by them.
func TestWrongPut(t *testing.T) {
	talk(t,
		line("put 4 0 3 1 7", "error 4"), line("put -1 0 3 1 7", "error 4"), line("put 4 2 50 3 1001", "error 4"),
		line("put 0 2 3 1 7", "error 1"), line("put 0 -1 3 1 7", "error 1"),
		line("put 0 0 50 1 7", "error 1"), line("put 0 0 -1 1 7", "error 1"),
		line("put 0 0 3 3 7", "error 1"), line("put 0 0 3 -1 7", "error 1"),
		line("put 0 0 3 1 1001", "error 1"), line("put 0 0 3 1 -1001", "error 1"),
		line("put 999999 0 3 1 7", "error 4"), line("put -999999 0 3 1 7", "error 4"),
		line("rows 0 0", "ok"), line("rows 0 1", "ok"))
}

// P22: which number of del is which, and its errors.
func TestDel(t *testing.T) {
	talk(t, slices.Concat(
		done("put 2 1 3 0 1", "put 2 1 4 0 2", "put 2 0 3 0 3", "del 2 1 3"),
		[][]string{
			line("rows 2 1", "4 2 0 0", "ok"), line("rows 2 0", "3 3 0 0", "ok"),
			line("del 2 1 3", "error 4"), line("del 1 1 4", "error 4"), line("del 2 1 5", "error 4"),
			line("del 4 1 4", "error 4"), line("del -1 1 4", "error 4"), line("del 4 2 50", "error 4"),
			line("del 2 2 4", "error 1"), line("del 2 -1 4", "error 1"), line("del 2 1 50", "error 1"), line("del 2 1 -1", "error 1"),
			line("rows 2 1", "4 2 0 0", "ok"), line("rows 2 0", "3 3 0 0", "ok"),
		})...)
}

// P22: send tells all, diff what the other one hasn't seen; take brings it, to the one whom it is for.
func TestPackets(t *testing.T) {
	for _, way := range []string{"send", "diff"} {
		talk(t, slices.Concat(
			done("put 0 0 3 0 4", "put 0 1 5 1 6", way+" 0 1", "put 0 0 3 0 5", way+" 0 2"),
			[][]string{
				line("rows 1 0", "ok"), line("rows 2 0", "ok"),
				line("take 0", "ok"), line("rows 1 0", "3 4 0 0", "ok"), line("rows 1 1", "5 0 6 0", "ok"), line("rows 2 0", "ok"),
				line("take 1", "ok"), line("rows 2 0", "3 5 0 0", "ok"), line("rows 1 0", "3 4 0 0", "ok"),
				line("take 0", "ok"), line("rows 1 0", "3 4 0 0", "ok"), line("rows 3 0", "ok"),
				line("take 2", "error 4"), line("take -1", "error 4"), line("take 999999", "error 4"),
				line(way+" 4 0", "error 4"), line(way+" 0 4", "error 4"), line(way+" -1 0", "error 4"), line(way+" 0 -1", "error 4"),
				line("take 2", "error 4"), line(way+" 1 1", "ok"), line("take 2", "ok"), line("take 3", "error 4"),
			})...)
	}
	says(t, "take 0\n", "error 4")
}

// P22: what was missing is as good as all, also where a row is gone that the other one has still.
func TestDiffIsAsGoodAsSend(t *testing.T) {
	for _, way := range []string{"send", "diff"} {
		talk(t, slices.Concat(
			done("put 0 0 3 0 4", "put 0 0 5 0 6", "send 0 1", "take 0", "del 1 0 3", "put 1 0 4 0 5", "put 0 0 5 1 7", way+" 1 0", "take 1"),
			[][]string{line("rows 0 0", "4 5 0 0", "5 6 7 0", "ok"), line("rows 1 0", "4 5 0 0", "5 6 0 0", "ok")})...)
	}
}

// P22: which happening is which; of diff and send, which are as good as one another, no answer tells it.
func TestHappenings(t *testing.T) {
	put := api.Happens{Kind: api.HEdit, A: 1, Edit: api.Edit{Kind: api.EPut, Table: 2, Key: 3, Col: 4, Value: 5}}
	del := api.Happens{Kind: api.HEdit, A: 1, Edit: api.Edit{Kind: api.EDel, Table: 2, Key: 3}}
	for word, want := range map[string]api.Happens{
		"put": put, "del": del, "send": {Kind: api.HSend, A: 1, B: 2}, "diff": {Kind: api.HDiff, A: 1, B: 2}, "take": {Kind: api.HTake, N: 1},
		"x": {}, "meet": {},
	} {
		if x := happensOf(word, []int{1, 2, 3, 4, 5}); x != want {
			t.Error(word, x, want)
		}
	}
}

// P22: behind 200 lines of them there are still packets to be taken.
func TestManyPackets(t *testing.T) {
	lines := done("put 0 0 3 0 4")
	lines = append(lines, done(slices.Repeat([]string{"send 0 1"}, 196)...)...)
	lines = append(lines, line("take 196", "error 4"), line("take 195", "ok"), line("rows 1 0", "3 4 0 0", "ok"))
	talk(t, lines...)
	says(t, strings.Repeat("diff 3 2\n", 200), slices.Repeat([]string{"ok"}, 200)...)
}

// P22: all have the same behind meet.
func TestMeet(t *testing.T) {
	lines := done("put 0 0 3 1 7", "put 1 0 3 1 9", "put 2 1 5 0 1", "put 3 0 4 2 -2", "put 1 0 3 0 2", "meet")
	for id := range 4 {
		n := strconv.Itoa(id)
		lines = append(lines, line("rows "+n+" 0", "3 2 9 0", "4 0 0 -2", "ok"), line("rows "+n+" 1", "5 1 0 0", "ok"))
	}
	lines = append(lines, line("take 0", "error 4"))
	// Who writes a value while others delete the row keeps it.
	lines = append(lines, done("del 0 0 3", "put 2 0 3 2 8", "del 3 0 3", "meet", "meet")...)
	for id := range 4 {
		lines = append(lines, line("rows "+strconv.Itoa(id)+" 0", "3 0 0 8", "4 0 0 -2", "ok"))
	}
	talk(t, lines...)
}

// P22: errors of rows.
func TestWrongRows(t *testing.T) {
	says(t, "put 0 0 3 1 7\nrows 4 0\nrows -1 0\nrows 0 2\nrows 0 -1\nrows 999999 -999999\nrows 0 0\n",
		"ok", "error 4", "error 4", "error 4", "error 4", "error 4", "3 0 7 0", "ok")
}

// P22: rows stand in their order, each table's own.
func TestRowsInOrder(t *testing.T) {
	var lines [][]string
	var want []string
	for i := 49; i >= 0; i-- {
		lines = append(lines, done("put 0 1 "+strconv.Itoa(i)+" 2 "+strconv.Itoa(i-25))...)
	}
	for i := range 50 {
		want = append(want, strconv.Itoa(i)+" 0 0 "+strconv.Itoa(i-25))
	}
	talk(t, append(lines, line("rows 0 1", append(want, "ok")...))...)
}

// P22: nothing is kept from one text to the next one.
func TestNothingIsKept(t *testing.T) {
	text := "rows 0 0\nshow\nsee 0 0\ntake 0\nput 0 0 3 1 7\nquery table 0\nview 0\nsend 0 1\ntake 0\nsee 0 0\nrows 1 0\n"
	for range 3 {
		says(t, text, "ok", "error 1 0", "error 4", "error 4", "ok", "ok", "ok", "ok", "ok", "3 0 7 0", "ok", "3 0 7 0", "ok")
	}
}
