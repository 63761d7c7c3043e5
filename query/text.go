package query

import (
	"strconv"
	"strings"

	"viewmere/api"
)

// maxDigits: how many digits a number of a line has at most.
const maxDigits = 10

// Print: P11.
func Print(q []api.Step) (string, api.Errno) {
	if e := Check(q); e != api.OK {
		return "", e
	}
	var text strings.Builder
	for _, s := range q {
		text.WriteString(printLine(s))
		text.WriteByte('\n')
	}
	return text.String(), api.OK
}

// Parse: P11.
func Parse(s string) ([]api.Step, int, api.Errno) {
	if len(s) > api.MaxText {
		return nil, 0, api.ErrLarge
	}
	var q []api.Step
	for at := 1; s != ""; at++ {
		line, rest, ended := strings.Cut(s, "\n")
		step, ok := parseLine(line)
		if !ended || !ok {
			return nil, at, api.ErrSyntax
		}
		q = append(q, step)
		s = rest
	}
	if e := Check(q); e != api.OK {
		return nil, 0, e
	}
	return q, 0, api.OK
}

// printLine: the line of a step that Check takes.
func printLine(s api.Step) string {
	word, parts := formOf(s.Kind)
	words := []string{word}
	for i := range len(parts) {
		words = append(words, printPart(s, parts[i]))
	}
	return strings.Join(words, " ")
}

// printPart: one part of a step.
func printPart(s api.Step, part byte) string {
	switch part {
	case partOp:
		return signOf(s.Op)
	case partList:
		return printList(s.List)
	}
	return strconv.Itoa(*field(&s, part))
}

// printList: numbers with commas between.
func printList(l []int) string {
	var words []string
	for _, n := range l {
		words = append(words, strconv.Itoa(n))
	}
	return strings.Join(words, ",")
}

// parseLine: the step of a line, whether Check takes it or not.
func parseLine(line string) (api.Step, bool) {
	words := strings.Split(line, " ")
	kind := kindOf(words[0])
	_, parts := formOf(kind)
	if kind == 0 || len(words) != 1+len(parts) {
		return api.Step{}, false
	}
	s := api.Step{Kind: kind}
	for i := range len(parts) {
		if !parsePart(&s, parts[i], words[1+i]) {
			return api.Step{}, false
		}
	}
	return s, true
}

// parsePart: puts one part into a step.
func parsePart(s *api.Step, part byte, word string) bool {
	ok := false
	switch part {
	case partOp:
		s.Op = opOf(word)
		ok = s.Op != 0
	case partList:
		s.List, ok = parseList(word)
	default:
		*field(s, part), ok = Number(word, maxDigits)
	}
	return ok
}

// parseList: one number or more, with commas between.
func parseList(word string) ([]int, bool) {
	var l []int
	for _, w := range strings.Split(word, ",") {
		n, ok := Number(w, maxDigits)
		if !ok {
			return nil, false
		}
		l = append(l, n)
	}
	return l, true
}

// Number, which a desk needs beside the listed calls: the number that a word of at most so many digits
// tells; false, if it tells none.
func Number(word string, digits int) (int, bool) {
	if len(strings.TrimPrefix(word, "-")) > digits {
		return 0, false
	}
	n, err := strconv.Atoi(word)
	// Each number is told in one way alone: so noughts ahead, -0 and +1 are none.
	if err != nil || strconv.Itoa(n) != word {
		return 0, false
	}
	return n, true
}

// signOf an op, as lines tell it.
func signOf(op int) string {
	switch op {
	case api.OLess:
		return "<"
	case api.OEqual:
		return "="
	case api.OMore:
		return ">"
	}
	return ""
}

// opOf a sign, 0 if it is none.
func opOf(sign string) int {
	for op := api.OLess; op <= api.OMore; op++ {
		if signOf(op) == sign {
			return op
		}
	}
	return 0
}
