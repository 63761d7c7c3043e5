package desk

import (
	"strconv"

	"viewmere/api"
	"viewmere/rank"
)

// tell: the answer of a call that has no more to tell than its error.
func tell(e api.Errno) string {
	if e == api.OK {
		return "ok\n"
	}
	return "error " + strconv.Itoa(int(e)) + "\n"
}

// tellAt: the answer of an error of a query's text, and of its line.
func tellAt(e api.Errno, line int) string {
	return "error " + strconv.Itoa(int(e)) + " " + strconv.Itoa(line) + "\n"
}

// tellRows: the answer that tells a set's rows, by some columns.
func tellRows(l []api.Item, by []int) string {
	rows, e := rank.Rows(l, by, api.MaxItems)
	if e != api.OK {
		return tell(e)
	}
	return rank.Print(rows) + tell(api.OK)
}
