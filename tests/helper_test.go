package tests

import (
	"slices"
	"testing"
)

// sentinel stands in the spare room behind lists: no test uses it as a number of a list.
const sentinel = -987654321

// roomy is a list with spare room behind it, which must stay as it is.
func roomy(list []int) []int {
	full := make([]int, len(list)+5)
	copy(full, list)
	for i := len(list); i < len(full); i++ {
		full[i] = sentinel
	}
	return full[:len(list)]
}

// checkUntouched fails if a roomy list is not as it was made, or the room behind it is not.
func checkUntouched(t *testing.T, what string, list []int, was []int) {
	t.Helper()
	if !slices.Equal(list, was) {
		t.Fatalf("%s: the argument %v became %v", what, was, list)
	}
	for _, x := range list[len(list):cap(list)] {
		if x != sentinel {
			t.Fatalf("%s: the room behind the argument %v was written into: %v", what, was, list[:cap(list)])
		}
	}
}

// scribble writes over a list and the room behind it.
func scribble(list []int) {
	for i := range list[:cap(list)] {
		list[:cap(list)][i] = 424242
	}
}

// listsOf gives all lists of at most n numbers out of the given ones, in any order and with doubles.
func listsOf(numbers []int, n int) [][]int {
	all := [][]int{nil}
	for from := 0; n > 0; n-- {
		end := len(all)
		for _, list := range all[from:end] {
			for _, x := range numbers {
				all = append(all, append(slices.Clone(list), x))
			}
		}
		from = end
	}
	return all
}
