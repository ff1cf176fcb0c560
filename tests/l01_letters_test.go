package tests

import (
	"fmt"
	"math"
	"slices"
	"strings"
	"testing"

	"loop.example/g00645/impl"
)

// edgeNumbers lie at the ends of an int, of the actions and of words of bits.
var edgeNumbers = []int{math.MinInt, -64, -1, 0, 5, 11, 12, 16, 64, math.MaxInt}

type setFunction struct {
	name string
	call func(a []int, b []int) []int
	// keeps says whether a number is in the answer, by whether it is in a and in b.
	keeps func(inA bool, inB bool) bool
}

func setFunctions() []setFunction {
	return []setFunction{
		{"SetJoin", impl.SetJoin, func(inA, inB bool) bool { return inA || inB }},
		{"SetMeet", impl.SetMeet, func(inA, inB bool) bool { return inA && inB }},
		{"SetLess", impl.SetLess, func(inA, inB bool) bool { return inA && !inB }},
	}
}

// occurs is written out so that the reference shares no code with the program.
func occurs(list []int, x int) bool {
	for _, y := range list {
		if x == y {
			return true
		}
	}
	return false
}

func wantedSet(f setFunction, a []int, b []int) []int {
	numbers := map[int]bool{}
	for _, x := range slices.Concat(a, b) {
		numbers[x] = true
	}
	var want []int
	for x := range numbers {
		if f.keeps(occurs(a, x), occurs(b, x)) {
			want = append(want, x)
		}
	}
	slices.Sort(want)
	return want
}

func checkSets(t *testing.T, a []int, b []int) {
	t.Helper()
	for _, f := range setFunctions() {
		if got, want := f.call(a, b), wantedSet(f, a, b); !slices.Equal(got, want) {
			t.Fatalf("%s(%v, %v) = %v, want %v", f.name, a, b, got, want)
		}
	}
	want := true
	for _, x := range a {
		want = want && occurs(b, x)
	}
	if got := impl.SetIn(a, b); got != want {
		t.Fatalf("SetIn(%v, %v) = %v", a, b, got)
	}
}

func actionsOf(mask int) []int {
	var list []int
	for x := range 12 {
		if mask>>x&1 == 1 {
			list = append(list, x)
		}
	}
	return list
}

func TestMaxLetters(t *testing.T) {
	if impl.MaxLetters != 12 {
		t.Fatal(impl.MaxLetters)
	}
}

func TestSetsByHand(t *testing.T) {
	tests := []struct{ a, b, join, meet, less []int }{
		{[]int{1, 3, 5}, []int{3, 4}, []int{1, 3, 4, 5}, []int{3}, []int{1, 5}},
		{[]int{0, 11}, []int{0, 11}, []int{0, 11}, []int{0, 11}, nil},
		{[]int{2}, nil, []int{2}, nil, []int{2}},
		{nil, []int{2}, []int{2}, nil, nil},
		{nil, []int{}, nil, nil, nil},
		{[]int{3, 1, 3}, []int{1, 1, 2}, []int{1, 2, 3}, []int{1}, []int{3}},
		{[]int{12, -1, 12, 0}, []int{11, -1}, []int{-1, 0, 11, 12}, []int{-1}, []int{0, 12}},
		{[]int{math.MaxInt, 4}, []int{math.MinInt, 4}, []int{math.MinInt, 4, math.MaxInt}, []int{4}, []int{math.MaxInt}},
		// Apart by the width of a word, so that they must not fall on the same bit.
		{[]int{64, 16, 32}, []int{0, -64}, []int{-64, 0, 16, 32, 64}, nil, []int{16, 32, 64}},
	}
	for _, x := range tests {
		join, meet, less := impl.SetJoin(x.a, x.b), impl.SetMeet(x.a, x.b), impl.SetLess(x.a, x.b)
		if !slices.Equal(join, x.join) || !slices.Equal(meet, x.meet) || !slices.Equal(less, x.less) {
			t.Errorf("of %v and %v: %v %v %v, want %v %v %v", x.a, x.b, join, meet, less, x.join, x.meet, x.less)
		}
	}
}

func TestSetsOfActions(t *testing.T) {
	for mask := range 1 << 12 {
		a := actionsOf(mask)
		for _, other := range []int{0, 1, 1 << 11, 0b101010101010, 0b1111, 0xfff, mask, mask ^ 0xfff} {
			checkSets(t, a, actionsOf(other))
			checkSets(t, actionsOf(other), a)
		}
	}
}

func TestSetsOfAnyLists(t *testing.T) {
	lists := listsOf(edgeNumbers, 2)
	for _, a := range lists {
		for _, b := range lists {
			checkSets(t, a, b)
		}
	}
	for _, a := range listsOf(edgeNumbers, 3) {
		checkSets(t, a, []int{64, 0, -1, 64, 11})
		checkSets(t, []int{12, 5, math.MinInt, 5}, a)
	}
}

func TestSetsOfLongLists(t *testing.T) {
	var a, b []int
	for i := range 3000 {
		a = append(a, i*7919%1000-500)
		b = append(b, 700-i*104729%1300)
	}
	checkSets(t, a, b)
	checkSets(t, b, a)
}

func TestSetLaws(t *testing.T) {
	lists := listsOf([]int{-1, 0, 11, 12}, 2)
	for _, a := range lists {
		for _, b := range lists {
			join, meet := impl.SetJoin(a, b), impl.SetMeet(a, b)
			if !slices.Equal(join, impl.SetJoin(b, a)) || !slices.Equal(meet, impl.SetMeet(b, a)) {
				t.Fatalf("%v and %v: it matters which comes first", a, b)
			}
			apart := impl.SetJoin(impl.SetLess(a, b), impl.SetLess(b, a))
			if !slices.Equal(join, impl.SetJoin(apart, meet)) || len(impl.SetMeet(apart, meet)) != 0 {
				t.Fatalf("%v and %v: the join is not what is in one alone and what is in both", a, b)
			}
			if !impl.SetIn(meet, a) || !impl.SetIn(a, join) || impl.SetIn(a, b) != slices.Equal(meet, impl.SetJoin(a, nil)) {
				t.Fatalf("%v and %v: what is in which is wrong", a, b)
			}
			for _, c := range lists {
				if !slices.Equal(impl.SetLess(a, impl.SetJoin(b, c)), impl.SetMeet(impl.SetLess(a, b), impl.SetLess(a, c))) {
					t.Fatalf("%v less the join of %v and %v", a, b, c)
				}
			}
		}
	}
}

func TestSetFunctionsLeaveArguments(t *testing.T) {
	for _, f := range setFunctions() {
		for _, wasA := range listsOf([]int{12, 3, -1}, 3) {
			for _, wasB := range [][]int{nil, {3}, {-1, 12}, {7, 3, 7, -5}} {
				a, b := roomy(wasA), roomy(wasB)
				got := f.call(a, b)
				what := fmt.Sprintf("%s(%v, %v)", f.name, wasA, wasB)
				checkUntouched(t, what, a, wasA)
				checkUntouched(t, what, b, wasB)
				want := slices.Clone(got)
				scribble(a)
				scribble(b)
				if !slices.Equal(got, want) {
					t.Fatalf("%s: the answer shares memory with an argument", what)
				}
				a, b = roomy(wasA), roomy(wasB)
				scribble(f.call(a, b))
				checkUntouched(t, what+", answer written over", a, wasA)
				checkUntouched(t, what+", answer written over", b, wasB)
			}
		}
	}
}

func TestSetFunctionsOnOneList(t *testing.T) {
	was := []int{12, 3, 3, -1}
	list := roomy(was)
	join, meet, less := impl.SetJoin(list, list), impl.SetMeet(list, list), impl.SetLess(list, list)
	want := []int{-1, 3, 12}
	if !slices.Equal(join, want) || !slices.Equal(meet, want) || len(less) != 0 || !impl.SetIn(list, list) {
		t.Fatal(join, meet, less)
	}
	checkUntouched(t, "the same list twice", list, was)
}

func TestSetQuestionsLeaveArguments(t *testing.T) {
	for _, was := range listsOf([]int{12, 3, -1}, 3) {
		a, b := roomy(was), roomy([]int{3, 12, 0})
		impl.SetOk(a)
		impl.SetHas(a, 3)
		impl.SetIn(a, b)
		impl.SetIn(b, a)
		checkUntouched(t, "SetOk, SetHas, SetIn", a, was)
		checkUntouched(t, "SetIn", b, []int{3, 12, 0})
	}
}

func TestSpareRoomIsNotRead(t *testing.T) {
	full := []int{4, 2, 9}
	short := full[:1]
	if impl.SetHas(short, 2) || impl.SetIn([]int{2}, short) || !impl.SetIn(short, []int{4}) || !impl.SetOk(short) {
		t.Fatal("what lies behind a list's length was read")
	}
	for _, got := range [][]int{impl.SetJoin(short, nil), impl.SetMeet(short, full), impl.SetLess(short, nil)} {
		if !slices.Equal(got, []int{4}) {
			t.Fatal(got)
		}
	}
}

func TestSetOk(t *testing.T) {
	good := [][]int{nil, {}, {0}, {11}, {0, 11}, {3, 4, 7}, {0, 1, 2, 3, 4, 5, 6, 7, 8, 9, 10, 11}}
	for _, s := range good {
		if !impl.SetOk(s) {
			t.Errorf("SetOk(%v) is false", s)
		}
	}
	bad := [][]int{
		{12}, {-1}, {0, 12}, {-1, 0}, {1, 1}, {2, 1}, {0, 2, 1}, {0, 1, 1}, {11, 0},
		{math.MaxInt}, {math.MinInt}, {math.MinInt, 0}, {0, math.MaxInt}, {16}, {64},
		{0, 1, 2, 3, 4, 5, 6, 7, 8, 9, 10, 11, 12}, {0, 1, 2, 3, 4, 5, 6, 7, 8, 9, 10, 11, 11},
	}
	for _, s := range bad {
		if impl.SetOk(s) {
			t.Errorf("SetOk(%v) is true", s)
		}
	}
	for mask := range 1 << 12 {
		if !impl.SetOk(actionsOf(mask)) {
			t.Errorf("SetOk(%v) is false", actionsOf(mask))
		}
	}
}

func TestSetHas(t *testing.T) {
	for _, s := range listsOf(edgeNumbers, 3) {
		for _, x := range edgeNumbers {
			if impl.SetHas(s, x) != occurs(s, x) {
				t.Fatalf("SetHas(%v, %d) = %v", s, x, !occurs(s, x))
			}
		}
	}
}

func TestSetIn(t *testing.T) {
	tests := []struct {
		a, b []int
		want bool
	}{
		{nil, nil, true},
		{[]int{}, []int{1}, true},
		{[]int{1}, nil, false},
		{[]int{1, 1, 1}, []int{1}, true},
		{[]int{2, 1}, []int{1, 5, 2}, true},
		{[]int{1, 2}, []int{1, 3}, false},
		{[]int{12}, []int{0}, false},
		{[]int{-1, 100}, []int{100, 7, -1}, true},
		{[]int{-1, 100}, []int{101, 7, -1}, false},
		{[]int{64}, []int{0}, false},
		{[]int{math.MinInt}, []int{math.MaxInt}, false},
		{[]int{math.MinInt, math.MaxInt}, []int{math.MaxInt, math.MinInt}, true},
	}
	for _, x := range tests {
		if got := impl.SetIn(x.a, x.b); got != x.want {
			t.Errorf("SetIn(%v, %v) = %v", x.a, x.b, got)
		}
	}
}

func TestNumText(t *testing.T) {
	tests := map[int]string{
		0: "0", 7: "7", 10: "10", 407: "407", 999999: "999999", 1000000: "1000000",
		-1: "-1", -3: "-3", -10: "-10", -999999: "-999999",
		math.MaxInt: "9223372036854775807",
		math.MinInt: "-9223372036854775808", math.MinInt + 1: "-9223372036854775807",
	}
	for n, want := range tests {
		if got := impl.NumText(n); got != want {
			t.Errorf("NumText(%d) = %q", n, got)
		}
	}
	for power := 1; power > 0 && power < math.MaxInt/10; power *= 10 {
		for _, n := range []int{power - 1, power, power + 1, -power, 1 - power} {
			if got := impl.NumText(n); got != fmt.Sprint(n) {
				t.Errorf("NumText(%d) = %q", n, got)
			}
		}
	}
}

func TestNumReadReadsNumText(t *testing.T) {
	for n := range 1000000 {
		if got, ok := impl.NumRead(impl.NumText(n)); got != n || !ok {
			t.Fatalf("NumRead of the text of %d: %d, %v", n, got, ok)
		}
	}
	for _, n := range []int{-1, -999999, 1000000, 1000001, 9999999, 1 << 31, 1 << 32, 1<<32 + 1, math.MaxInt, math.MinInt} {
		if got, ok := impl.NumRead(impl.NumText(n)); got != 0 || ok {
			t.Errorf("NumRead of the text of %d: %d, %v", n, got, ok)
		}
	}
}

func TestNumReadByHand(t *testing.T) {
	for s, want := range map[string]int{"0": 0, "9": 9, "10": 10, "407": 407, "100000": 100000, "999999": 999999} {
		if got, ok := impl.NumRead(s); got != want || !ok {
			t.Errorf("NumRead(%q) = %d, %v", s, got, ok)
		}
	}
}

func TestNumReadOfOtherTexts(t *testing.T) {
	bad := []string{
		"", "07", "00", "000000", "0000001", "0999999", "-1", "-0", "-", "+", "+1", "+0", "--1",
		" ", " 1", "1 ", "1 2", "1\n", "\n1", "\t1", "1\x00", "\x001", "1\r",
		"1000000", "9999999", "4294967296", "4294967303", "9223372036854775807", "9223372036854775808",
		"18446744073709551616", "18446744073709551617", "-9223372036854775808", "340282366920938463463374607431768211457",
		"a", "1a", "a1", "0x1", "0b1", "0o7", "1e3", "1.0", "1.", ".1", "1,000", "1_000", "/", ":", "1/", "1:",
		"\u0661", "1\u0662", "\uff11", "\xff", "1\xb2", "NaN", "Inf", "true",
		strings.Repeat("9", 5000), strings.Repeat("0", 5000), strings.Repeat("0", 5000) + "1", "1" + strings.Repeat("0", 5000),
	}
	for _, s := range bad {
		if got, ok := impl.NumRead(s); got != 0 || ok {
			t.Errorf("NumRead(%.40q) = %d, %v", s, got, ok)
		}
	}
	for x := range 256 {
		s := string([]byte{byte(x)})
		if _, ok := impl.NumRead(s); ok != strings.Contains("0123456789", s) {
			t.Errorf("NumRead(%q): %v", s, ok)
		}
	}
}
