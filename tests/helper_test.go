package tests

import (
	"slices"
	"testing"

	"loop.example/g00645/impl"
)

// sentinel stands in the spare room behind lists: no test uses it as a number of a list.
const sentinel = -987654321

var sentinelStep = impl.Step{From: sentinel, Act: sentinel, To: sentinel}

// overwritten stands in lists that a test wrote over: no answer has it.
const overwritten = 424242

// roomyOf is a list with spare room behind it, which must stay as it is.
func roomyOf[T any](list []T, mark T) []T {
	full := make([]T, len(list)+5)
	copy(full, list)
	for i := len(list); i < len(full); i++ {
		full[i] = mark
	}
	return full[:len(list)]
}

func roomy(list []int) []int { return roomyOf(list, sentinel) }

// checkUntouchedOf fails if a roomy list is not as it was made, or the room behind it is not.
func checkUntouchedOf[T comparable](t *testing.T, what string, list []T, was []T, mark T) {
	t.Helper()
	if !slices.Equal(list, was) {
		t.Fatalf("%s: the argument %v became %v", what, was, list)
	}
	for _, x := range list[len(list):cap(list)] {
		if x != mark {
			t.Fatalf("%s: the room behind the argument %v was written into: %v", what, was, list[:cap(list)])
		}
	}
}

func checkUntouched(t *testing.T, what string, list []int, was []int) {
	t.Helper()
	checkUntouchedOf(t, what, list, was, sentinel)
}

// scribbleOf writes over a list and the room behind it.
func scribbleOf[T any](list []T, mark T) {
	for i := range list[:cap(list)] {
		list[:cap(list)][i] = mark
	}
}

func scribble(list []int) { scribbleOf(list, overwritten) }

func roomyIa(a impl.Ia) impl.Ia {
	a.Ins, a.Outs, a.Hids = roomy(a.Ins), roomy(a.Outs), roomy(a.Hids)
	a.Steps = roomyOf(a.Steps, sentinelStep)
	return a
}

func checkIaUntouched(t *testing.T, what string, a impl.Ia, was impl.Ia) {
	t.Helper()
	checkUntouched(t, what, a.Ins, was.Ins)
	checkUntouched(t, what, a.Outs, was.Outs)
	checkUntouched(t, what, a.Hids, was.Hids)
	checkUntouchedOf(t, what, a.Steps, was.Steps, sentinelStep)
}

func scribbleIa(a impl.Ia) {
	scribble(a.Ins)
	scribble(a.Outs)
	scribble(a.Hids)
	scribbleOf(a.Steps, impl.Step{From: overwritten, Act: overwritten, To: overwritten})
}

// cloneIa has lists of its own, so that a test may change one automaton and keep the other.
func cloneIa(a impl.Ia) impl.Ia {
	a.Ins, a.Outs, a.Hids, a.Steps = slices.Clone(a.Ins), slices.Clone(a.Outs), slices.Clone(a.Hids), slices.Clone(a.Steps)
	return a
}

// sameIa takes an empty list and nil for the same, as the document does.
func sameIa(a impl.Ia, b impl.Ia) bool {
	return a.States == b.States && a.Init == b.Init && slices.Equal(a.Ins, b.Ins) &&
		slices.Equal(a.Outs, b.Outs) && slices.Equal(a.Hids, b.Hids) && slices.Equal(a.Steps, b.Steps)
}

// draws is a row of numbers that look drawn and are the same in every run.
type draws uint64

func (d *draws) below(n int) int {
	*d = *d*6364136223846793005 + 1442695040888963407
	return int(uint64(*d)>>33) % n
}

// listsOf gives all lists of at most n numbers out of the given ones, in any order and with doubles.
func listsOf(numbers []int, n int) [][]int {
	all := [][]int{nil}
	for from := 0; n > 0; n-- {
		end := len(all)
		for _, list := range all[from:end] {
			for _, x := range numbers {
				all = append(all, append(slices.Clone(list), x))
			}
		}
		from = end
	}
	return all
}
