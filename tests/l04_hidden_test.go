package tests

import (
	"fmt"
	"math"
	"slices"
	"testing"

	"loop.example/g00645/impl"
)

// wantedClosures has the Closure of each state of an IaOk automaton, found by joining ways over each state in between.
func wantedClosures(a impl.Ia) [][]int {
	var leads [40][40]bool
	for s := range a.States {
		leads[s][s] = true
	}
	for _, x := range a.Steps {
		if occurs(a.Hids, x.Act) {
			leads[x.From][x.To] = true
		}
	}
	for between := range a.States {
		for from := range a.States {
			for to := range a.States {
				leads[from][to] = leads[from][to] || leads[from][between] && leads[between][to]
			}
		}
	}
	closures := make([][]int, a.States)
	for from := range a.States {
		for to := range a.States {
			if leads[from][to] {
				closures[from] = append(closures[from], to)
			}
		}
	}
	return closures
}

// hiddenAnswers finds the closures of an automaton once for all that is asked of it.
type hiddenAnswers struct {
	a        impl.Ia
	ok       bool
	closures [][]int
}

// wantedHidden is the document's chapter 4 for one automaton, with no code of the program.
func wantedHidden(a impl.Ia) hiddenAnswers {
	if !wantedOk(a) {
		return hiddenAnswers{a: a}
	}
	return hiddenAnswers{a: a, ok: true, closures: wantedClosures(a)}
}

func (w hiddenAnswers) has(s int) bool { return w.ok && s >= 0 && s < w.a.States }

func (w hiddenAnswers) closure(s int) []int {
	if !w.has(s) {
		return nil
	}
	return w.closures[s]
}

func (w hiddenAnswers) sureTaken(s int) []int {
	if !w.has(s) {
		return nil
	}
	var sure []int
	for _, act := range w.a.Ins {
		count := 0
		for _, x := range w.closure(s) {
			if occurs(wantedActs(w.a, x, w.a.Ins), act) {
				count++
			}
		}
		if count == len(w.closure(s)) {
			sure = append(sure, act)
		}
	}
	return sure
}

func (w hiddenAnswers) maySay(s int) []int {
	var said []int
	for _, x := range w.closure(s) {
		said = append(said, wantedActs(w.a, x, w.a.Outs)...)
	}
	return sorted(said)
}

func (w hiddenAnswers) farAfter(s int, act int) []int {
	var tos []int
	for _, x := range w.closure(s) {
		tos = append(tos, wantedAfter(w.a, x, act)...)
	}
	return sorted(tos)
}

func (w hiddenAnswers) closuresOf(states []int) []int {
	var all []int
	for _, s := range states {
		all = append(all, w.closure(s)...)
	}
	return sorted(all)
}

func (w hiddenAnswers) runs(from []int, trace []int) []int {
	for _, s := range from {
		if !w.has(s) {
			return nil
		}
	}
	at := w.closuresOf(from)
	for _, act := range trace {
		var tos []int
		for _, s := range at {
			tos = append(tos, w.farAfter(s, act)...)
		}
		at = w.closuresOf(tos)
	}
	return at
}

// edgeActs are all actions and numbers beside them.
var edgeActs = []int{math.MinInt, -64, -1, 0, 1, 2, 3, 4, 5, 6, 7, 8, 9, 10, 11, 12, 13, 64, math.MaxInt}

func edgeStates(a impl.Ia) []int {
	states := []int{math.MinInt, -40, -1, a.States, a.States + 1, 40, 41, 64, math.MaxInt}
	if a.States < 0 || a.States > 41 {
		return append(states, 0, 1, 2, 39, a.Init)
	}
	return append(states, upTo(a.States)...)
}

func (w hiddenAnswers) checkState(t *testing.T, s int) {
	t.Helper()
	answers := []struct {
		name      string
		got, want []int
	}{
		{"Closure", impl.Closure(w.a, s), w.closure(s)},
		{"SureTaken", impl.SureTaken(w.a, s), w.sureTaken(s)},
		{"MaySay", impl.MaySay(w.a, s), w.maySay(s)},
	}
	for _, x := range answers {
		if !slices.Equal(x.got, x.want) {
			t.Fatalf("%s(%+v, %d) = %v, want %v", x.name, w.a, s, x.got, x.want)
		}
	}
	for _, act := range edgeActs {
		if got, want := impl.FarAfter(w.a, s, act), w.farAfter(s, act); !slices.Equal(got, want) {
			t.Fatalf("FarAfter(%+v, %d, %d) = %v, want %v", w.a, s, act, got, want)
		}
	}
}

func (w hiddenAnswers) checkRuns(t *testing.T, from []int, trace []int) {
	t.Helper()
	if got, want := impl.Runs(w.a, from, trace), w.runs(from, trace); !slices.Equal(got, want) {
		t.Fatalf("Runs(%+v, %v, %v) = %v, want %v", w.a, from, trace, got, want)
	}
}

// checkSure is promise 4 for one state, said with Closure, Taken and Said.
func checkSure(t *testing.T, a impl.Ia, s int) {
	t.Helper()
	sure, said := impl.SureTaken(a, s), impl.MaySay(a, s)
	if !impl.SetOk(sure) || !impl.SetIn(sure, a.Ins) || !impl.SetOk(said) || !impl.SetIn(said, a.Outs) {
		t.Fatalf("of state %d of %+v: SureTaken %v, MaySay %v", s, a, sure, said)
	}
	inAll, inOne := slices.Clone(a.Ins), []int{}
	for _, x := range impl.Closure(a, s) {
		inAll = impl.SetMeet(inAll, impl.Taken(a, x))
		inOne = impl.SetJoin(inOne, impl.Said(a, x))
	}
	if !slices.Equal(sure, inAll) {
		t.Fatalf("of state %d of %+v: SureTaken %v, but %v are Taken in each state of Closure", s, a, sure, inAll)
	}
	if !slices.Equal(said, inOne) {
		t.Fatalf("of state %d of %+v: MaySay %v, but %v are Said in some state of Closure", s, a, said, inOne)
	}
}

// checkHidden holds the answers of all states, and some of Runs, against the reference.
func checkHidden(t *testing.T, a impl.Ia) {
	t.Helper()
	w := wantedHidden(a)
	for _, s := range edgeStates(a) {
		w.checkState(t, s)
		w.checkRuns(t, []int{s}, nil)
		if w.has(s) {
			checkSure(t, a, s)
		}
	}
	for _, trace := range [][]int{nil, {}, {0}, {1}, {2}, {1, 2}, {2, 1, 0}, {12}, {-1}} {
		for _, from := range [][]int{nil, {}, {0}, {a.Init}, {a.States - 1, 0}, {0, a.States}, {-1, 0}} {
			w.checkRuns(t, from, trace)
		}
	}
}

// whisperer has a chain of hidden steps from 0 into a circle of 1 and 2, one from 4 to 5, and a state 3 that has none.
func whisperer() impl.Ia {
	return impl.Ia{
		States: 6, Init: 3, Ins: []int{0, 5}, Outs: []int{1, 11}, Hids: []int{2, 7},
		Steps: []impl.Step{
			{From: 0, Act: 0, To: 5}, {From: 0, Act: 2, To: 1}, {From: 0, Act: 5, To: 0},
			{From: 1, Act: 0, To: 1}, {From: 1, Act: 1, To: 4}, {From: 1, Act: 7, To: 2},
			{From: 2, Act: 0, To: 3}, {From: 2, Act: 5, To: 4}, {From: 2, Act: 7, To: 1}, {From: 2, Act: 11, To: 0},
			{From: 3, Act: 1, To: 3}, {From: 3, Act: 1, To: 4},
			{From: 4, Act: 2, To: 5},
			{From: 5, Act: 5, To: 5},
		},
	}
}

func TestHiddenStatesByHand(t *testing.T) {
	tests := []struct {
		s                   int
		closure, sure, said []int
	}{
		{0, []int{0, 1, 2}, []int{0}, []int{1, 11}},
		{1, []int{1, 2}, []int{0}, []int{1, 11}},
		{2, []int{1, 2}, []int{0}, []int{1, 11}},
		{3, []int{3}, nil, []int{1}},
		{4, []int{4, 5}, nil, nil},
		{5, []int{5}, []int{5}, nil},
		{-1, nil, nil, nil},
		{6, nil, nil, nil},
		{7, nil, nil, nil},
		{40, nil, nil, nil},
		{math.MinInt, nil, nil, nil},
		{math.MaxInt, nil, nil, nil},
	}
	a := whisperer()
	for _, x := range tests {
		closure, sure, said := impl.Closure(a, x.s), impl.SureTaken(a, x.s), impl.MaySay(a, x.s)
		if !slices.Equal(closure, x.closure) || !slices.Equal(sure, x.sure) || !slices.Equal(said, x.said) {
			t.Errorf("of state %d: Closure %v, SureTaken %v, MaySay %v", x.s, closure, sure, said)
		}
	}
	checkHidden(t, a)
}

func TestClosureByHand(t *testing.T) {
	backward := hops(40, 0)
	for s := range 39 {
		backward.Steps = append(backward.Steps, hop(s+1, s))
	}
	circle := hops(40, 0)
	for s := range 40 {
		circle.Steps = append(circle.Steps, hop(s, (s+1)%40))
	}
	tests := []struct {
		name string
		a    impl.Ia
		s    int
		want []int
	}{
		{"one state", hops(1, 0), 0, []int{0}},
		{"no steps, the first", hops(3, 0), 0, []int{0}},
		{"no steps, not Init", hops(3, 0), 1, []int{1}},
		{"no steps, the last", hops(3, 0), 2, []int{2}},
		{"no steps, -1", hops(3, 0), -1, nil},
		{"no steps, States", hops(3, 0), 3, nil},
		{"to itself", hops(3, 0, hop(1, 1)), 1, []int{1}},
		{"led to alone", hops(3, 0, hop(0, 1)), 1, []int{1}},
		{"a chain from the middle", hops(5, 0, hop(0, 1), hop(1, 3), hop(3, 4)), 1, []int{1, 3, 4}},
		{"against the order", hops(4, 0, hop(1, 0), hop(2, 1), hop(3, 2)), 3, []int{0, 1, 2, 3}},
		{"two ways", hops(4, 0, hop(0, 1), hop(0, 2), hop(1, 3), hop(2, 3)), 0, []int{0, 1, 2, 3}},
		{"into a circle", hops(4, 0, hop(0, 2), hop(2, 3), hop(3, 2)), 0, []int{0, 2, 3}},
		{"beside a circle", hops(4, 0, hop(0, 2), hop(2, 3), hop(3, 2)), 1, []int{1}},
		{"steps with Outs alone", row(40), 0, []int{0}},
		{"a chain of 40", changed(row(40), hideAll), 0, upTo(40)},
		{"a chain of 40, its last", changed(row(40), hideAll), 39, []int{39}},
		{"a chain of 40, its last but one", changed(row(40), hideAll), 38, []int{38, 39}},
		{"a chain of 40 backward", backward, 39, upTo(40)},
		{"a chain of 40 backward, its last", backward, 0, []int{0}},
		{"a circle of 40", circle, 17, upTo(40)},
		{"400 steps", changed(crowded(400), hideAll), 9, upTo(40)},
		{"400 steps, a state that has none", changed(crowded(400), hideAll), 10, []int{10}},
	}
	for _, x := range tests {
		if got := impl.Closure(x.a, x.s); !slices.Equal(got, x.want) {
			t.Errorf("%s: %v, want %v", x.name, got, x.want)
		}
		checkHidden(t, x.a)
	}
}

func hideAll(a *impl.Ia) { a.Outs, a.Hids = nil, a.Outs }

// Ins and Outs between two hidden steps cut the chain.
func TestClosureGoesAlongHidsAlone(t *testing.T) {
	a := impl.Ia{
		States: 6, Ins: []int{1}, Outs: []int{0}, Hids: []int{2, 11},
		Steps: []impl.Step{
			{From: 0, Act: 2, To: 1}, {From: 1, Act: 0, To: 3}, {From: 1, Act: 1, To: 4}, {From: 1, Act: 11, To: 2},
			{From: 3, Act: 2, To: 5}, {From: 4, Act: 2, To: 5},
		},
	}
	if got := impl.Closure(a, 0); !slices.Equal(got, []int{0, 1, 2}) {
		t.Fatal(got)
	}
	checkHidden(t, a)
}

// pair has a hidden step from 0 to 1; each of both takes and says what it is given.
func pair(taken [2][]int, said [2][]int) impl.Ia {
	a := impl.Ia{States: 2, Ins: []int{0, 1, 2}, Outs: []int{3, 4, 5}, Hids: []int{6}}
	for s := range 2 {
		for _, act := range slices.Concat(taken[s], said[s]) {
			a.Steps = append(a.Steps, impl.Step{From: s, Act: act, To: s})
		}
		if s == 0 {
			a.Steps = append(a.Steps, impl.Step{From: 0, Act: 6, To: 1})
		}
	}
	return a
}

func TestSureTakenWhereAHiddenStepTakesLess(t *testing.T) {
	tests := []struct{ first, second, want []int }{
		{[]int{0, 1, 2}, []int{0, 1, 2}, []int{0, 1, 2}},
		{[]int{0, 1, 2}, []int{0, 2}, []int{0, 2}},
		{[]int{0, 1, 2}, nil, nil},
		{[]int{0, 1}, []int{1, 2}, []int{1}},
		{[]int{0}, []int{0, 1, 2}, []int{0}},
		{[]int{0}, []int{2}, nil},
		{nil, []int{0, 1, 2}, nil},
		{nil, nil, nil},
	}
	for _, x := range tests {
		a := pair([2][]int{x.first, x.second}, [2][]int{})
		if got := impl.SureTaken(a, 0); !slices.Equal(got, x.want) {
			t.Errorf("where %v and %v are taken: SureTaken %v, want %v", x.first, x.second, got, x.want)
		}
		if got := impl.SureTaken(a, 1); !slices.Equal(got, x.second) {
			t.Errorf("where %v are taken, and one cannot leave unseen: SureTaken %v", x.second, got)
		}
		checkHidden(t, a)
	}
}

func TestMaySayWhereAHiddenStepSaysMore(t *testing.T) {
	tests := []struct{ first, second, want []int }{
		{nil, []int{3, 4, 5}, []int{3, 4, 5}},
		{[]int{4}, []int{3, 5}, []int{3, 4, 5}},
		{[]int{5}, []int{3}, []int{3, 5}},
		{[]int{3, 4}, []int{4, 5}, []int{3, 4, 5}},
		{[]int{3, 4}, []int{3, 4}, []int{3, 4}},
		{[]int{4}, nil, []int{4}},
		{nil, nil, nil},
	}
	for _, x := range tests {
		a := pair([2][]int{}, [2][]int{x.first, x.second})
		if got := impl.MaySay(a, 0); !slices.Equal(got, x.want) {
			t.Errorf("where %v and %v are said: MaySay %v, want %v", x.first, x.second, got, x.want)
		}
		if got := impl.MaySay(a, 1); !slices.Equal(got, x.second) {
			t.Errorf("where %v are said, and one cannot leave unseen: MaySay %v", x.second, got)
		}
		checkHidden(t, a)
	}
}

// The state that takes less lies at the end of a chain.
func TestSureTakenAlongAChain(t *testing.T) {
	for last := range 40 {
		a := impl.Ia{States: 40, Ins: []int{0, 11}, Outs: []int{1}, Hids: []int{4}}
		for s := range 40 {
			if s != last {
				a.Steps = append(a.Steps, impl.Step{From: s, Act: 0, To: s})
			} else {
				a.Steps = append(a.Steps, impl.Step{From: s, Act: 1, To: s})
			}
			if s < 39 {
				a.Steps = append(a.Steps, impl.Step{From: s, Act: 4, To: s + 1})
			}
			a.Steps = append(a.Steps, impl.Step{From: s, Act: 11, To: s})
		}
		if sure, said := impl.SureTaken(a, last), impl.MaySay(a, last); !slices.Equal(sure, []int{11}) || !slices.Equal(said, []int{1}) {
			t.Fatal(last, sure, said)
		}
		if sure, said := impl.SureTaken(a, 0), impl.MaySay(a, 0); !slices.Equal(sure, []int{11}) || !slices.Equal(said, []int{1}) {
			t.Fatal(last, sure, said)
		}
		if sure, said := impl.SureTaken(a, last+1), impl.MaySay(a, last+1); last < 39 && !slices.Equal(sure, []int{0, 11}) || len(said) != 0 {
			t.Fatal(last, sure, said)
		}
	}
}

func TestFarAfterByHand(t *testing.T) {
	tests := []struct {
		name   string
		s, act int
		want   []int
	}{
		{"of Ins", 0, 0, []int{1, 3, 5}},
		{"of Ins, here and there", 0, 5, []int{0, 4}},
		{"of Outs, there alone", 0, 1, []int{4}},
		{"of Outs, at the end of the chain", 0, 11, []int{0}},
		{"of Hids, here alone", 0, 2, []int{1}},
		{"of Hids, in a circle", 0, 7, []int{1, 2}},
		{"of Hids, in a circle, from inside", 1, 7, []int{1, 2}},
		{"of Ins, in a state come to unseen alone", 4, 5, []int{5}},
		{"of Hids, and no further", 4, 2, []int{5}},
		{"what is hidden behind is not gone along", 3, 1, []int{3, 4}},
		{"of Outs, not done here", 3, 11, nil},
		{"of Ins, not done here", 5, 0, nil},
		{"of Hids, not done here", 5, 2, nil},
		{"none of a's actions", 0, 3, nil},
		{"no action", 0, 12, nil},
		{"no action, -1", 0, -1, nil},
		{"no action, least", 0, math.MinInt, nil},
		{"no action, most", 0, math.MaxInt, nil},
		{"no state, -1", -1, 1, nil},
		{"no state, States", 6, 1, nil},
		{"no state, no action", math.MinInt, math.MaxInt, nil},
	}
	for _, x := range tests {
		if got := impl.FarAfter(whisperer(), x.s, x.act); !slices.Equal(got, x.want) {
			t.Errorf("%s: FarAfter %d, %d: %v, want %v", x.name, x.s, x.act, got, x.want)
		}
	}
}

// One To is come to from several states of Closure, and told once.
func TestFarAfterTellsEachOnce(t *testing.T) {
	a := impl.Ia{States: 3, Outs: []int{1}, Hids: []int{2}, Steps: []impl.Step{
		{From: 0, Act: 1, To: 1}, {From: 0, Act: 1, To: 2}, {From: 0, Act: 2, To: 1}, {From: 0, Act: 2, To: 2},
		{From: 1, Act: 1, To: 0}, {From: 1, Act: 1, To: 1},
		{From: 2, Act: 1, To: 0}, {From: 2, Act: 1, To: 1},
	}}
	if got := impl.FarAfter(a, 0, 1); !slices.Equal(got, []int{0, 1, 2}) {
		t.Fatal(got)
	}
	if got := impl.MaySay(a, 0); !slices.Equal(got, []int{1}) {
		t.Fatal(got)
	}
	checkHidden(t, a)
}

func TestRunsByHand(t *testing.T) {
	tests := []struct {
		name        string
		from, trace []int
		want        []int
	}{
		{"no state, no trace", nil, nil, nil},
		{"no state, empty lists", []int{}, []int{}, nil},
		{"no state, a trace", nil, []int{0, 5}, nil},
		{"one, no trace", []int{0}, nil, []int{0, 1, 2}},
		{"one, empty trace", []int{0}, []int{}, []int{0, 1, 2}},
		{"one that cannot be left unseen", []int{3}, nil, []int{3}},
		{"several, falling", []int{5, 3}, nil, []int{3, 5}},
		{"several, whose Closures meet", []int{2, 1, 0}, nil, []int{0, 1, 2}},
		{"one twice", []int{4, 0, 4}, nil, []int{0, 1, 2, 4, 5}},
		{"all of them", []int{5, 4, 3, 2, 1, 0}, nil, []int{0, 1, 2, 3, 4, 5}},
		{"one is none, the last", []int{0, 6}, nil, nil},
		{"one is none, the first", []int{-1, 0}, nil, nil},
		{"one is none, in between", []int{0, 40, 1}, []int{0}, nil},
		{"one is none, alone", []int{6}, []int{0}, nil},
		{"one is none, least", []int{3, math.MinInt}, nil, nil},
		{"one is none, most", []int{math.MaxInt, 3}, nil, nil},
		{"of Ins", []int{0}, []int{0}, []int{1, 2, 3, 5}},
		{"of Outs, a hidden step behind it", []int{0}, []int{1}, []int{4, 5}},
		{"of Outs, hidden steps behind it", []int{0}, []int{11}, []int{0, 1, 2}},
		{"of Hids", []int{0}, []int{2}, []int{1, 2}},
		{"of Hids, in a circle", []int{0}, []int{7}, []int{1, 2}},
		{"of Hids, more than the chain has", []int{0}, []int{2, 2}, nil},
		{"of Hids, round and round", []int{0}, []int{2, 7, 7, 7}, []int{1, 2}},
		{"of Hids, that leads nowhere", []int{3}, []int{2}, nil},
		{"two of them", []int{0}, []int{1, 5}, []int{5}},
		{"it leads nowhere, the first", []int{3}, []int{0}, nil},
		{"it leads nowhere, the last", []int{0}, []int{1, 5, 1}, nil},
		{"it leads nowhere, in between", []int{0}, []int{1, 1, 5}, nil},
		{"none of a's actions", []int{0}, []int{3}, nil},
		{"no action", []int{0}, []int{12}, nil},
		{"no action, -1, behind one", []int{0}, []int{0, -1}, nil},
		{"no action, least and most", []int{0}, []int{math.MinInt, math.MaxInt}, nil},
		{"several, of which one goes on", []int{3, 5}, []int{5}, []int{5}},
		{"several, of which each goes on", []int{3, 2}, []int{1}, []int{3, 4, 5}},
	}
	w := wantedHidden(whisperer())
	for _, x := range tests {
		if got := impl.Runs(whisperer(), x.from, x.trace); !slices.Equal(got, x.want) {
			t.Errorf("%s: Runs %v, %v: %v, want %v", x.name, x.from, x.trace, got, x.want)
		}
		w.checkRuns(t, x.from, x.trace)
	}
}

func TestLongTracesAndLists(t *testing.T) {
	a := hops(3, 0, hop(0, 1), hop(1, 2), hop(2, 0))
	long := slices.Repeat([]int{3}, 100000)
	if got := impl.Runs(a, []int{1}, long); !slices.Equal(got, []int{0, 1, 2}) {
		t.Error(got)
	}
	if got := impl.Runs(a, []int{1}, append(slices.Clone(long), 4)); len(got) != 0 {
		t.Error(got)
	}
	if got := impl.Runs(row(40), []int{0}, long[:39]); !slices.Equal(got, []int{39}) {
		t.Error(got)
	}
	if got := impl.Runs(row(40), []int{0}, long[:40]); len(got) != 0 {
		t.Error(got)
	}
	if got := impl.Runs(row(40), slices.Repeat([]int{7, 2}, 100000), long[:5]); !slices.Equal(got, []int{7, 12}) {
		t.Error(got)
	}
	if got := impl.Runs(row(40), append(slices.Repeat([]int{7, 2}, 100000), 40), nil); len(got) != 0 {
		t.Error(got)
	}
}

func TestNothingHiddenOfWrongAutomata(t *testing.T) {
	for name, a := range badAutomata() {
		for _, s := range edgeStates(a) {
			closure, sure, said := impl.Closure(a, s), impl.SureTaken(a, s), impl.MaySay(a, s)
			if len(closure) != 0 || len(sure) != 0 || len(said) != 0 {
				t.Fatalf("%s, state %d: Closure %v, SureTaken %v, MaySay %v", name, s, closure, sure, said)
			}
			for _, act := range edgeActs {
				far, runs, none := impl.FarAfter(a, s, act), impl.Runs(a, []int{s}, []int{act}), impl.Runs(a, []int{s, s}, nil)
				if len(far) != 0 || len(runs) != 0 || len(none) != 0 {
					t.Fatalf("%s, state %d, act %d: FarAfter %v, Runs %v, %v", name, s, act, far, runs, none)
				}
			}
		}
		if got := impl.Runs(a, nil, nil); len(got) != 0 {
			t.Fatalf("%s: Runs of no states: %v", name, got)
		}
	}
}

// All but one thing of these is right, so that there is an answer for who does not look.
func TestNothingHiddenOfSpoiltWhisperers(t *testing.T) {
	spoilt := map[string]func(a *impl.Ia){
		"41 states":              func(a *impl.Ia) { a.States = 41 },
		"Init is none":           func(a *impl.Ia) { a.Init = 6 },
		"Init below 0":           func(a *impl.Ia) { a.Init = -1 },
		"an action in two":       func(a *impl.Ia) { a.Outs = append(a.Outs[:1:1], 7, 11) },
		"Hids fall":              func(a *impl.Ia) { a.Hids = []int{7, 2} },
		"a From that has no row": func(a *impl.Ia) { a.Steps = append(a.Steps, impl.Step{From: 40, Act: 5, To: 5}) },
		"a From below 0":         func(a *impl.Ia) { a.Steps[0].From = -1 },
		"a To that is none":      func(a *impl.Ia) { a.Steps[1].To = 6 },
		"a hidden To below 0":    func(a *impl.Ia) { a.Steps[1].To = -1 },
		"steps fall":             func(a *impl.Ia) { a.Steps[0], a.Steps[1] = a.Steps[1], a.Steps[0] },
		"an In with two Tos":     func(a *impl.Ia) { a.Steps = slices.Insert(a.Steps, 13, impl.Step{From: 5, Act: 5, To: 4}) },
		"a step of no set":       func(a *impl.Ia) { a.Ins = a.Ins[:1] },
	}
	for name, change := range spoilt {
		a := changed(whisperer(), change)
		if wantedOk(a) {
			t.Fatalf("%s: %+v is IaOk", name, a)
		}
		checkHidden(t, a)
		for s := range 6 {
			for function, list := range hiddenLists(a, s, 1, []int{s}, []int{1}) {
				if len(list) != 0 {
					t.Errorf("%s: %s of state %d is %v", name, function, s, list)
				}
			}
		}
	}
}

func TestHiddenOfGoodAutomata(t *testing.T) {
	for name, a := range goodAutomata() {
		t.Run(name, func(t *testing.T) { checkHidden(t, a) })
	}
}

// Promise 4, over all automata of two states and an action of each kind, with all short traces.
func TestHiddenOfAllSmallAutomata(t *testing.T) {
	var steps []impl.Step
	for i := range 12 {
		steps = append(steps, impl.Step{From: i / 6, Act: i / 2 % 3, To: i % 2})
	}
	froms, traces := listsOf([]int{0, 1, 2}, 2), listsOf([]int{0, 1, 2}, 2)
	for mask := range 1 << len(steps) {
		a := impl.Ia{States: 2, Init: mask % 2, Ins: []int{0}, Outs: []int{1}, Hids: []int{2}}
		for i, x := range steps {
			if mask>>i&1 == 1 {
				a.Steps = append(a.Steps, x)
			}
		}
		checkHidden(t, a)
		w := wantedHidden(a)
		for i, from := range froms {
			w.checkRuns(t, from, traces[(i+mask)%len(traces)])
		}
	}
}

// webOf has hidden steps between four states, one for each bit of the mask; each state takes all but one action and says one of its own.
func webOf(mask int) impl.Ia {
	a := impl.Ia{States: 4, Ins: []int{0, 1, 2, 3}, Outs: []int{4, 5, 6, 7}, Hids: []int{8}}
	for s := range 4 {
		for act := range 4 {
			if act != s {
				a.Steps = append(a.Steps, impl.Step{From: s, Act: act, To: act})
			}
		}
		a.Steps = append(a.Steps, impl.Step{From: s, Act: 4 + s, To: (s + 1) % 4})
		for to := range 4 {
			if to != s {
				if mask&1 == 1 {
					a.Steps = append(a.Steps, impl.Step{From: s, Act: 8, To: to})
				}
				mask >>= 1
			}
		}
	}
	return a
}

// Promise 4, over all ways in which hidden steps may go between four states, from each of them.
func TestHiddenOfAllWebsOfFourStates(t *testing.T) {
	d := draws(44)
	for mask := range 1 << 12 {
		a := webOf(mask)
		checkHidden(t, a)
		for s, closure := range wantedClosures(a) {
			// A state of Closure is the one that does not take its own number, and says its own number and 4.
			sure, said := impl.SureTaken(a, s), impl.MaySay(a, s)
			if !slices.Equal(sure, impl.SetLess(a.Ins, closure)) || len(said) != len(closure) {
				t.Fatalf("of state %d of %+v: SureTaken %v, MaySay %v", s, a, sure, said)
			}
		}
		wantedHidden(a).checkRuns(t, drawnList(&d, 2, 4), drawnList(&d, 3, 9))
	}
}

func drawnList(d *draws, length int, below int) []int {
	list := make([]int, length)
	for i := range list {
		list[i] = d.below(below)
	}
	return list
}

func TestHiddenOfDrawnAutomata(t *testing.T) {
	d := draws(41)
	told := 0
	for i := range 200 {
		states := 1 + d.below(40)
		a := drawnIa(&d, states, []int{states / 2, states, 2 * states, 400}[i%4])
		checkHidden(t, a)
		w := wantedHidden(a)
		for length := range 6 {
			from, trace := drawnList(&d, 1+d.below(4), states), drawnList(&d, length, 12)
			w.checkRuns(t, from, trace)
			told += len(w.runs(from, trace[:length/2]))
			w.checkRuns(t, from, trace[:length/2])
		}
	}
	if told < 2000 {
		t.Fatalf("the drawn traces lead to %d states: too few to tell", told)
	}
}

func TestHiddenOfSpoiltAutomata(t *testing.T) {
	d := draws(42)
	for range 1500 {
		a := drawnIa(&d, 1+d.below(6), 1+d.below(12))
		spoil(&d, &a)
		checkHidden(t, a)
	}
}

// Runs of one state is its Closure; of a trace it is Runs of what the trace ahead of its last action leads to.
func TestRunsGoOnActionByAction(t *testing.T) {
	d := draws(43)
	for range 300 {
		states := 1 + d.below(8)
		a := drawnIa(&d, states, 3*states)
		from, trace := drawnList(&d, d.below(4), states), drawnList(&d, d.below(6), 12)
		for i := range len(trace) + 1 {
			whole := impl.Runs(a, from, trace)
			inParts := impl.Runs(a, impl.Runs(a, from, trace[:i]), trace[i:])
			if !slices.Equal(whole, inParts) {
				t.Fatalf("Runs(%+v, %v, %v) = %v, in parts of %d it is %v", a, from, trace, whole, i, inParts)
			}
		}
		for s := range states {
			if got, want := impl.Runs(a, []int{s}, nil), impl.Closure(a, s); !slices.Equal(got, want) {
				t.Fatalf("Runs(%+v, %d) = %v, but Closure is %v", a, s, got, want)
			}
		}
	}
}

func hiddenLists(a impl.Ia, s int, act int, from []int, trace []int) map[string][]int {
	return map[string][]int{
		"Closure":   impl.Closure(a, s),
		"SureTaken": impl.SureTaken(a, s),
		"MaySay":    impl.MaySay(a, s),
		"FarAfter":  impl.FarAfter(a, s, act),
		"Runs":      impl.Runs(a, from, trace),
		"Runs of s": impl.Runs(a, from, nil),
	}
}

func hiddenForMemory() map[string]impl.Ia {
	all := automataForMemory()
	all["whisperer"] = whisperer()
	all["takes and says all"] = impl.Ia{States: 1, Ins: []int{0}, Outs: []int{1}, Steps: []impl.Step{{From: 0, Act: 0, To: 0}, {From: 0, Act: 1, To: 0}}}
	return all
}

var fromsForMemory = [][]int{nil, {0}, {0, 0}, {1, 0}, {0, 1, 2}, {3, 5}, {0, 99}}

func TestHiddenLeavesArgumentsAsTheyAre(t *testing.T) {
	for name, was := range hiddenForMemory() {
		for s := range 3 {
			for i, wasFrom := range fromsForMemory {
				wasTrace := []int{i % 3, 1}[:i%3]
				a, from, trace := roomyIa(was), roomy(wasFrom), roomy(wasTrace)
				lists := hiddenLists(a, s, 1, from, trace)
				checkIaUntouched(t, name, a, was)
				checkUntouched(t, name, from, wasFrom)
				checkUntouched(t, name, trace, wasTrace)
				for _, list := range lists {
					scribble(list)
				}
				what := fmt.Sprint(name, ", answers written over")
				checkIaUntouched(t, what, a, was)
				checkUntouched(t, what, from, wasFrom)
				checkUntouched(t, what, trace, wasTrace)
			}
		}
	}
}

func TestHiddenAnswersShareNoMemoryWithArguments(t *testing.T) {
	for name, was := range hiddenForMemory() {
		for s := range 3 {
			for i, wasFrom := range fromsForMemory {
				a, from, trace := roomyIa(was), roomy(wasFrom), roomy([]int{i % 3})
				lists := hiddenLists(a, s, 1, from, trace)
				want := map[string][]int{}
				for function, list := range lists {
					want[function] = slices.Clone(list)
				}
				scribbleIa(a)
				scribble(from)
				scribble(trace)
				for function, list := range lists {
					if !slices.Equal(list, want[function]) {
						t.Fatalf("%s: the answer of %s shares memory with an argument", name, function)
					}
				}
			}
		}
	}
}

// No call keeps anything: an answer that is written over is not told again.
func TestNoHiddenAnswerIsKeptForAnother(t *testing.T) {
	a := whisperer()
	for range 3 {
		for _, list := range hiddenLists(a, 0, 0, []int{0, 4}, []int{5}) {
			scribble(list)
		}
		checkHidden(t, a)
	}
}

// from and trace may be one list, and one of the automaton's own.
func TestRunsOfListsInOnePiece(t *testing.T) {
	piece := []int{0, 5, 1, 11, 2, 7}
	was := slices.Clone(piece)
	a := whisperer()
	a.Ins, a.Outs, a.Hids = piece[:2], piece[2:4], piece[4:]
	for i := range 3 {
		for j := range len(piece) {
			got := impl.Runs(a, piece[:i], piece[j:])
			want := wantedHidden(whisperer()).runs(was[:i], was[j:])
			if !slices.Equal(got, want) || !slices.Equal(piece, was) {
				t.Fatal(i, j, got, want, piece)
			}
			scribble(got)
			if !slices.Equal(piece, was) {
				t.Fatal("the answer shares memory with the argument", piece)
			}
		}
	}
	if got := impl.Runs(a, piece[:1], piece[:1]); !slices.Equal(got, []int{1, 2, 3, 5}) || !slices.Equal(piece, was) {
		t.Fatal(got, piece)
	}
}

func TestHiddenDoesNotReadSpareRoom(t *testing.T) {
	a := whisperer()
	a.Ins, a.Outs, a.Hids, a.Steps = a.Ins[:2], a.Outs[:1], a.Hids[:1], a.Steps[:5]
	if got := impl.Closure(a, 0); !slices.Equal(got, []int{0, 1}) {
		t.Fatal(got)
	}
	checkHidden(t, a)
	from, trace := []int{0, 3, 99}, []int{1, 5, 99}
	if got := impl.Runs(whisperer(), from[:1], trace[:0]); !slices.Equal(got, []int{0, 1, 2}) {
		t.Fatal(got)
	}
	if got := impl.Runs(whisperer(), from[:2], trace[:1]); !slices.Equal(got, []int{3, 4, 5}) {
		t.Fatal(got)
	}
}
