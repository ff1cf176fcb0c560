package impl

import (
	"slices"
	"strconv"
)

const MaxLetters = 12

const maxRead = 999999

// letterBits has bit x set where action x is in the set: sets go together by one operation on all bits.
type letterBits uint16

const (
	opJoin = iota
	opMeet
	opLess
)

func SetOk(s []int) bool {
	for i, x := range s {
		if !isAction(x) || i > 0 && s[i-1] >= x {
			return false
		}
	}
	return true
}

func SetJoin(a []int, b []int) []int { return combine(opJoin, a, b) }

func SetMeet(a []int, b []int) []int { return combine(opMeet, a, b) }

func SetLess(a []int, b []int) []int { return combine(opLess, a, b) }

func SetIn(a []int, b []int) bool { return len(SetLess(a, b)) == 0 }

func SetHas(s []int, x int) bool { return slices.Contains(s, x) }

func NumText(n int) string { return strconv.Itoa(n) }

func NumRead(s string) (int, bool) {
	n, err := strconv.Atoi(s)
	// Atoi takes more than one text for a number (`07`, `+7`); only the one that NumText writes counts.
	if err != nil || n < 0 || n > maxRead || NumText(n) != s {
		return 0, false
	}
	return n, true
}

func isAction(x int) bool { return 0 <= x && x < MaxLetters }

func combine(op int, a []int, b []int) []int {
	lettersA, othersA := takeApart(a)
	lettersB, othersB := takeApart(b)
	return putTogether(combineLetters(op, lettersA, lettersB), combineOthers(op, othersA, othersB))
}

// takeApart gives the actions as bits and all other numbers as a rising list of its own,
// since the functions on sets answer for lists of any numbers and only actions have a bit.
func takeApart(list []int) (letterBits, []int) {
	var letters letterBits
	var others []int
	for _, x := range list {
		if isAction(x) {
			letters |= 1 << x
		} else {
			others = append(others, x)
		}
	}
	return letters, risen(others)
}

// risen sorts in place: it is given lists that this package made, never an argument of an exported function.
func risen(list []int) []int {
	slices.Sort(list)
	return slices.Compact(list)
}

func combineLetters(op int, a letterBits, b letterBits) letterBits {
	switch op {
	case opJoin:
		return a | b
	case opMeet:
		return a & b
	default:
		return a &^ b
	}
}

func combineOthers(op int, a []int, b []int) []int {
	if op == opJoin {
		return risen(slices.Concat(a, b))
	}
	var kept []int
	for _, x := range a {
		if _, found := slices.BinarySearch(b, x); found == (op == opMeet) {
			kept = append(kept, x)
		}
	}
	return kept
}

// putTogether needs no sorting: every other number lies below all actions or above them.
func putTogether(letters letterBits, others []int) []int {
	above, _ := slices.BinarySearch(others, 0)
	all := slices.Clone(others[:above])
	for x := range MaxLetters {
		if letters&(1<<x) != 0 {
			all = append(all, x)
		}
	}
	return append(all, others[above:]...)
}
