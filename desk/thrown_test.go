package desk

import (
	"regexp"
	"strconv"
	"strings"
	"sync"
	"testing"

	"viewmere/api"
	"viewmere/net"
	"viewmere/query"
	"viewmere/rank"
	"viewmere/zset"
)

// dice: numbers that look thrown, the same ones at each run.
type dice uint64

// throw: one of n numbers, from 0 on.
func (d *dice) throw(n int) int {
	*d = *d*6364136223846793005 + 1442695040888963407
	return int(uint64(*d)>>33) % n
}

// of: one of these.
func (d *dice) of(l ...string) string { return l[d.throw(len(l))] }

// number: most often one of the first n, from 0 on.
func (d *dice) number(n int) string {
	if d.throw(40) == 0 {
		return d.of("-1", "4", "50", "1001", "999999", "-999999", "1000000", "00", "-0", "x", "+1", "-")
	}
	return strconv.Itoa(d.throw(n))
}

// step: a line of a query, after how many of them, right or not.
func (d *dice) step() string {
	return d.of("table 0", "table 0", "table 1", "where 0 0 > 2", "where 0 1 < 3", "pick 0 0,1", "pick 1 0,0,1", "join 0 0 1 0", "join 0 1 0 0", "union 0 1",
		"minus 1 0", "minus 0 1", "distinct 0", "count 0 1", "sum 0 1 2", "sum 1 0 1", "count 1 0", "x", "", "table  0", "pick  0  1")
}

// line: of a script, now and then a wrong one.
func (d *dice) line() string {
	n := d.number
	switch d.throw(20) {
	case 0, 1, 2, 3, 4, 5:
		return "put " + n(4) + " " + n(2) + " " + n(8) + " " + n(3) + " " + n(5)
	case 6:
		return "del " + n(4) + " " + n(2) + " " + n(8)
	case 7:
		return "send " + n(4) + " " + n(4)
	case 8:
		return "diff " + n(4) + " " + n(4)
	case 9, 10:
		return "take " + n(12)
	case 11, 12, 13:
		return "query " + d.step()
	case 14:
		return "view " + n(4)
	case 15:
		return "rows " + n(4) + " " + n(2)
	case 16, 17:
		return "see " + n(4) + " " + n(2) + d.of("", "", " 1", " -1", " -2", " 2 -1", " 0", " 7", " 1 1 1 1 1 1 1 1 1")
	case 18:
		return d.of("clear", "show", "show")
	}
	return d.of("meet", "", "  ", "# no", "#", "x", "put", "meet 0", "view", "see 0", " \t", "take 0 0")
}

// spaced: a line with more blanks, which change nothing.
func (d *dice) spaced(s string) string {
	for d.throw(3) == 0 {
		s = strings.Replace(" "+s+" ", " ", "   ", d.throw(3))
	}
	return s
}

// forms of all lines but those of query, with N for a number.
const forms = "clear|show|put( N){5}|del( N){3}|send( N){2}|diff( N){2}|take( N)|view( N)|rows( N){2}|see( N){2,}|meet"

// model: what P22 says of a text, by a pattern for its lines, and the calls that it names.
type model struct {
	net  *net.Net
	text string
	form *regexp.Regexp
	seen map[string]int
}

// newModel: of a new text.
func newModel(seen map[string]int) *model {
	pattern := "^(?:" + strings.ReplaceAll(forms, "N", "(?:0|-?[1-9][0-9]{0,5})") + ")$"
	return &model{net: net.New(), form: regexp.MustCompile(pattern), seen: seen}
}

// fails: an error's answer.
func (m *model) fails(e api.Errno, at ...int) string {
	answer := []string{"error", strconv.Itoa(int(e))}
	for _, n := range at {
		answer = append(answer, strconv.Itoa(n))
	}
	return strings.Join(answer, " ") + "\n"
}

// line: the answer of a line.
func (m *model) line(s string) string {
	s = strings.Trim(regexp.MustCompile(" +").ReplaceAllString(s, " "), " ")
	if s == "" || s[0] == '#' {
		return ""
	}
	word, rest, _ := strings.Cut(s, " ")
	if word == "query" {
		if len(m.text)+len(rest)+1 > 1024 {
			return m.fails(2)
		}
		m.text += rest + "\n"
		return "ok\n"
	}
	if !m.form.MatchString(s) {
		return m.fails(3)
	}
	var l []int
	for _, w := range strings.Fields(rest) {
		n, _ := strconv.Atoi(w)
		l = append(l, n)
	}
	answer, e := m.do(word, append(l, 0, 0, 0, 0, 0), l)
	m.seen[word+" "+e]++
	return answer
}

// do: the answer of a line of this form; the numbers once with noughts behind, once as they are. Beside
// it its first word, to be counted.
func (m *model) do(word string, l, all []int) (string, string) {
	var e api.Errno
	told := ""
	x := api.Happens{A: l[0], B: l[1], N: l[0], Text: m.text}
	q, at, wrong := query.Parse(m.text)
	switch word {
	case "clear":
		m.text = ""
	case "show":
		if wrong != 0 {
			return m.fails(wrong, at), "error of a text"
		}
		told, e = query.Print(q)
	case "put":
		x.Kind, x.Edit = 1, api.Edit{Kind: 1, Table: l[1], Key: l[2], Col: l[3], Value: l[4]}
	case "del":
		x.Kind, x.Edit = 1, api.Edit{Kind: 2, Table: l[1], Key: l[2]}
	case "view":
		x.Kind = 5
		if wrong != 0 && l[0] >= 0 && l[0] < 4 {
			return m.fails(wrong, at), "error of a text"
		}
	case "rows":
		t, f := m.net.Table(l[0], l[1])
		if e = f; e == 0 {
			set, _ := zset.Of(t)
			told, e = m.rows(set, nil)
		}
	case "see":
		set, f := m.net.View(l[0], l[1])
		if e = f; e == 0 {
			told, e = m.rows(set, all[2:])
		}
	case "meet":
		e = m.net.Meet()
	default:
		x.Kind = map[string]int{"send": 2, "diff": 3, "take": 4}[word]
	}
	if x.Kind > 0 {
		e = m.net.Do(x)
	}
	if e != 0 {
		return m.fails(e), "error"
	}
	return told + "ok\n", "ok"
}

// rows of a set, told.
func (m *model) rows(set []api.Item, by []int) (string, api.Errno) {
	l, e := rank.Rows(set, by, 400)
	return rank.Print(l), e
}

// P22, P1: texts of many lines, right and wrong, are answered as the promise says.
func TestThrown(t *testing.T) {
	d := dice(1)
	seen := map[string]int{}
	for range 400 {
		m := newModel(seen)
		var text, want strings.Builder
		for range 40 + d.throw(161) {
			s := d.spaced(d.line())
			text.WriteString(s + "\n")
			want.WriteString(m.line(s))
		}
		if got := Run(text.String()); got != want.String() {
			t.Fatalf("%s\n%s\n%s", text.String(), got, want.String())
		}
	}
	for _, s := range []string{"clear ok", "show ok", "show error of a text", "put ok", "put error", "del ok", "del error", "send ok", "send error",
		"diff ok", "diff error", "take ok", "take error", "view ok", "view error", "view error of a text", "rows ok", "rows error", "see ok", "see error", "meet ok"} {
		if seen[s] < 10 {
			t.Error("too few of", s, seen[s])
		}
	}
}

// P22, P1: any bytes are answered, each line with what the model says.
func TestAnyBytes(t *testing.T) {
	d := dice(2)
	for range 3000 {
		text := ""
		for range 1 + d.throw(60) {
			text += d.of("put", "rows", "see", "take", "query", "view", "show", " ", " ", " ", " ", "\n", "\n", "0", "1", "-", "#", "\t", "\r", "\x00", "\xff", "\u00e9", "table", "0 0")
		}
		m, want := newModel(map[string]int{}), ""
		for _, s := range strings.Split(text, "\n") {
			want += m.line(s)
		}
		if got := Run(text); got != want {
			t.Fatalf("%q:\n%q, not\n%q", text, got, want)
		}
	}
}

// behind: what further lines answer behind a text.
func behind(text, more string) string {
	return strings.TrimPrefix(Run(text+more), Run(text))
}

// P22: who has heard the same has the same: packets come in whatever order, and all meet in the end.
func TestThrownOrders(t *testing.T) {
	d := dice(3)
	for range 50 {
		n := d.number
		text := ""
		for range 60 {
			text += "put " + n(4) + " " + n(2) + " " + n(8) + " " + n(3) + " " + n(5) + "\n" + d.of("", "del "+n(4)+" 0 "+n(8)+"\n")
		}
		text += "send 1 0\nsend 2 0\nsend 3 0\ndiff 1 0\ndiff 2 0\ndiff 3 0\n"
		want := behind(text+"take 0\ntake 1\ntake 2\n", "rows 0 0\nrows 0 1\n")
		if !strings.HasSuffix(want, "ok\n") || len(want) < 40 {
			t.Fatalf("%s\n%s", text, want)
		}
		if got := behind(text+"take 5\ntake 3\ntake 3\ntake 4\n", "rows 0 0\nrows 0 1\n"); got != want {
			t.Fatalf("%s\n%s\n%s", text, got, want)
		}
		for _, id := range []string{"0", "1", "2", "3"} {
			if got := behind(text+"meet\n", "rows "+id+" 0\nrows "+id+" 1\n"); got != want {
				t.Fatalf("%s\n%s\n%s", text, got, want)
			}
		}
	}
}

// P2: what is answered hangs on the text alone, also where many are done at once.
func TestAtOnce(t *testing.T) {
	d := dice(4)
	var texts, want []string
	for range 16 {
		text := ""
		for range 100 {
			text += d.line() + "\n"
		}
		texts = append(texts, text)
		want = append(want, Run(text))
	}
	var all sync.WaitGroup
	got := make([]string, len(texts))
	for i, text := range texts {
		all.Go(func() { got[i] = Run(text) })
	}
	all.Wait()
	for i := range want {
		if got[i] != want[i] {
			t.Errorf("%s\n%s\n%s", texts[i], got[i], want[i])
		}
	}
}
