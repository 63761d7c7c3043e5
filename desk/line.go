package desk

import (
	"slices"
	"strings"

	"viewmere/api"
	"viewmere/query"
)

// maxDigits: how many digits a number has at most.
const maxDigits = 6

// linesOf a text: what stands ahead of each byte 10, and what stands behind the last one, if that isn't empty.
func linesOf(text string) []string {
	lines := strings.Split(text, "\n")
	if last := len(lines) - 1; lines[last] == "" {
		lines = lines[:last]
	}
	return lines
}

// wordsOf a line: its pieces between blanks that aren't empty.
func wordsOf(line string) []string {
	return slices.DeleteFunc(strings.Split(line, " "), func(word string) bool { return word == "" })
}

// numbersOf words; false, if one of them is none.
func numbersOf(words []string) ([]int, bool) {
	var l []int
	for _, word := range words {
		n, ok := query.Number(word, maxDigits)
		if !ok {
			return nil, false
		}
		l = append(l, n)
	}
	return l, true
}

// isForm: is there a line that begins with this word, and goes on with so many numbers?
func isForm(word string, many int) bool {
	switch word {
	case "clear", "show", "meet":
		return many == 0
	case "take", "view":
		return many == 1
	case "send", "diff", "rows":
		return many == 2
	case "del":
		return many == 3
	case "put":
		return many == 5
	case "see":
		return many >= 2
	}
	return false
}

// happensOf a line of a word and as many numbers as it asks for: what happens by it in a net.
func happensOf(word string, l []int) api.Happens {
	switch word {
	case "put":
		return api.Happens{Kind: api.HEdit, A: l[0], Edit: api.Edit{Kind: api.EPut, Table: l[1], Key: l[2], Col: l[3], Value: l[4]}}
	case "del":
		return api.Happens{Kind: api.HEdit, A: l[0], Edit: api.Edit{Kind: api.EDel, Table: l[1], Key: l[2]}}
	case "send":
		return api.Happens{Kind: api.HSend, A: l[0], B: l[1]}
	case "diff":
		return api.Happens{Kind: api.HDiff, A: l[0], B: l[1]}
	case "take":
		return api.Happens{Kind: api.HTake, N: l[0]}
	}
	// Of no kind: the net refuses it.
	return api.Happens{}
}
