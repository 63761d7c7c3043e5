package query

import (
	"strings"

	"viewmere/api"
)

// The parts of a step, by a letter each.
const (
	partA     = 'A'
	partB     = 'B'
	partCol   = 'C'
	partOp    = 'O'
	partValue = 'V'
	partList  = 'L'
)

// The parts that are one number each: 0, where a kind doesn't tell them.
const numberParts = "ABCOV"

// formOf a kind: the word that its lines begin with, and the parts that are told behind it, in order;
// both empty, if there is no such kind.
func formOf(kind int) (word, parts string) {
	switch kind {
	case api.QTable:
		return "table", "A"
	case api.QWhere:
		return "where", "ACOV"
	case api.QPick:
		return "pick", "AL"
	case api.QJoin:
		return "join", "ABCV"
	case api.QUnion:
		return "union", "AB"
	case api.QMinus:
		return "minus", "AB"
	case api.QDistinct:
		return "distinct", "A"
	case api.QCount:
		return "count", "AC"
	case api.QSum:
		return "sum", "ACV"
	}
	return "", ""
}

// kindOf a line's first word, 0 if there is none.
func kindOf(word string) int {
	for kind := api.QTable; kind <= api.QSum; kind++ {
		if w, _ := formOf(kind); w == word {
			return kind
		}
	}
	return 0
}

// tellsItsPartsAlone: has the step nothing that its kind doesn't tell?
func tellsItsPartsAlone(s api.Step) bool {
	_, parts := formOf(s.Kind)
	for i := range len(numberParts) {
		part := numberParts[i]
		if strings.IndexByte(parts, part) < 0 && *field(&s, part) != 0 {
			return false
		}
	}
	return strings.IndexByte(parts, partList) >= 0 || len(s.List) == 0
}

// field: where the step has a part that is one number.
func field(s *api.Step, part byte) *int {
	switch part {
	case partA:
		return &s.A
	case partB:
		return &s.B
	case partCol:
		return &s.Col
	case partOp:
		return &s.Op
	}
	return &s.Value
}
