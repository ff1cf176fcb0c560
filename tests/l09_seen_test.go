package tests

import (
	"fmt"
	"math"
	"slices"
	"testing"

	"loop.example/g00645/impl"
)

// wantedSure is the document's sentence on Sure, with no code of the program.
func (w watcher) wantedSure() (impl.Ia, bool) {
	if !w.ok {
		return impl.Ia{}, false
	}
	sure := impl.Ia{Ins: w.a.Ins, Outs: w.a.Outs}
	mixes := [][]int{w.closure(w.a.Init)}
	for place := 0; place < len(mixes); place++ {
		for _, act := range sorted(slices.Concat(w.a.Ins, w.a.Outs)) {
			next := w.after(mixes[place], act)
			if len(next) == 0 {
				continue
			}
			to := slices.IndexFunc(mixes, func(m []int) bool { return slices.Equal(m, next) })
			if to < 0 {
				to = len(mixes)
				mixes = append(mixes, next)
			}
			sure.Steps = append(sure.Steps, impl.Step{From: place, Act: act, To: to})
		}
		if len(mixes) > 40 {
			return impl.Ia{}, false
		}
	}
	sure.States = len(mixes)
	if len(sure.Steps) > 400 {
		return impl.Ia{}, false
	}
	return sure, true
}

// wantedClasses goes from pair to pair: at first all are alike, and those go of which one has a step that the other one has not.
func wantedClasses(a impl.Ia) []int {
	if !wantedOk(a) {
		return nil
	}
	var apart [40][40]bool
	rows := make([][]impl.Step, a.States)
	for _, x := range a.Steps {
		rows[x.From] = append(rows[x.From], x)
	}
	follows := func(s int, t int) bool {
		for _, x := range rows[s] {
			if !slices.ContainsFunc(rows[t], func(y impl.Step) bool { return x.Act == y.Act && !apart[x.To][y.To] }) {
				return false
			}
		}
		return true
	}
	for some := true; some; {
		some = false
		for s := range a.States {
			for t := range s {
				if !apart[s][t] && !(follows(s, t) && follows(t, s)) {
					apart[s][t], apart[t][s], some = true, true, true
				}
			}
		}
	}
	var classes []int
	for s := range a.States {
		classes = append(classes, slices.Index(apart[s][:], false))
	}
	return classes
}

// wantedMerged asks of each step that the classes might have whether a step of their states is one.
func wantedMerged(a impl.Ia) impl.Ia {
	if !wantedOk(a) {
		return impl.Ia{}
	}
	classes := wantedClasses(a)
	least := sorted(classes)
	merged := impl.Ia{States: len(least), Init: slices.Index(least, classes[a.Init]), Ins: a.Ins, Outs: a.Outs, Hids: a.Hids}
	there := map[impl.Step]bool{}
	for _, x := range a.Steps {
		there[impl.Step{From: classes[x.From], Act: x.Act, To: classes[x.To]}] = true
	}
	for from, s := range least {
		for act := range 12 {
			for to, t := range least {
				if there[impl.Step{From: s, Act: act, To: t}] {
					merged.Steps = append(merged.Steps, impl.Step{From: from, Act: act, To: to})
				}
			}
		}
	}
	return wantedTrimmed(merged)
}

func wantedAlike(a impl.Ia, b impl.Ia) bool {
	ofA, ofB := wantedWatcher(a), wantedWatcher(b)
	return wantedRivals(ofA, ofB).refines() && wantedRivals(ofB, ofA).refines()
}

// wantedSays marks, action by action, the states in which a may be, with no closures.
func wantedSays(a impl.Ia, trace []int) bool {
	if !wantedOk(a) {
		return false
	}
	var may [40]bool
	may[a.Init] = true
	unseen := func() {
		for range a.States {
			for _, x := range a.Steps {
				may[x.To] = may[x.To] || may[x.From] && kindOf(a, x.Act) == "hid"
			}
		}
	}
	for _, act := range trace {
		if kind := kindOf(a, act); kind != "in" && kind != "out" {
			return false
		}
		unseen()
		var next [40]bool
		for _, x := range a.Steps {
			next[x.To] = next[x.To] || may[x.From] && x.Act == act
		}
		may = next
	}
	return slices.Contains(may[:], true)
}

func checkSays(t *testing.T, a impl.Ia, trace []int) bool {
	t.Helper()
	want := wantedSays(a, trace)
	if got := impl.Says(a, trace); got != want {
		t.Fatalf("Says(%+v, %v) = %v", a, trace, got)
	}
	return want
}

// tracesOf gives traces that a may have, the short ones first, each to states to which none ahead of it leads, and each of these with one action more.
func tracesOf(a impl.Ia, most int) [][]int {
	w := wantedWatcher(a)
	traces, ends := [][]int{nil}, [][]int{w.closure(a.Init)}
	for i := 0; i < len(ends) && len(ends) < most; i++ {
		for _, act := range slices.Concat(a.Ins, a.Outs) {
			next := w.after(ends[i], act)
			known := func(end []int) bool { return slices.Equal(end, next) }
			if len(next) > 0 && !slices.ContainsFunc(ends, known) {
				ends, traces = append(ends, next), append(traces, append(slices.Clone(traces[i]), act))
			}
		}
	}
	for _, trace := range slices.Clone(traces) {
		for _, act := range []int{-1, 0, 1, 2, 3, 4, 5, 6, 7, 8, 9, 10, 11, 12} {
			traces = append(traces, append(slices.Clone(trace), act))
		}
	}
	return traces
}

// checkSaysSame fails if one of both says what the other one does not.
func checkSaysSame(t *testing.T, a impl.Ia, b impl.Ia, traces [][]int) {
	t.Helper()
	for _, trace := range traces {
		if impl.Says(a, trace) != impl.Says(b, trace) {
			t.Fatalf("Says(%+v, %v) = %v, but Says(%+v, ..) is not", a, trace, impl.Says(a, trace), b)
		}
	}
}

// checkSureSays holds Sure against the reference; besides, it says what a says, has one step of each action, and is its own Sure.
func checkSureSays(t *testing.T, a impl.Ia, traces [][]int) (impl.Ia, bool) {
	t.Helper()
	got, ok := impl.Sure(a)
	want, is := wantedWatcher(a).wantedSure()
	if ok != is || !sameIa(got, want) {
		t.Fatalf("Sure(%+v) = %+v, %v, want %+v, %v", a, got, ok, want, is)
	}
	if !ok {
		return got, ok
	}
	if !impl.IaOk(got) || len(impl.Reached(got)) != got.States || !single(got) {
		t.Fatalf("Sure(%+v) = %+v is not right", a, got)
	}
	if again, ok := impl.Sure(got); !ok || !sameIa(again, got) {
		t.Fatalf("Sure(%+v) = %+v, and of this one it is %+v, %v", a, got, again, ok)
	}
	checkSaysSame(t, a, got, traces)
	return got, ok
}

// checkClasses is asked of the program alone: of one class are those that have the same actions to the same classes.
func checkClasses(t *testing.T, a impl.Ia) {
	t.Helper()
	classes := impl.Classes(a)
	if len(classes) != a.States {
		t.Fatalf("Classes(%+v) = %v", a, classes)
	}
	var looks [][]int
	for s := range a.States {
		var look []int
		for _, act := range impl.ActsOf(a) {
			var to []int
			for _, x := range impl.After(a, s, act) {
				to = append(to, classes[x])
			}
			look = append(append(look, -1), sorted(to)...)
		}
		looks = append(looks, look)
	}
	for s := range a.States {
		if classes[s] > s || classes[classes[s]] != classes[s] {
			t.Fatalf("Classes(%+v) = %v: of %d it is not the least of its class", a, classes, s)
		}
		for u := range s {
			if (classes[s] == classes[u]) != slices.Equal(looks[s], looks[u]) {
				t.Fatalf("Classes(%+v) = %v: wrong of %d and %d", a, classes, u, s)
			}
		}
	}
}

// checkMerged is promise 9 for one automaton: merged, it is the same for who looks.
func checkMerged(t *testing.T, a impl.Ia, traces [][]int) {
	t.Helper()
	merged := impl.Merged(a)
	if !impl.IaOk(merged) || len(impl.Reached(merged)) != merged.States || merged.States > impl.Trimmed(a).States || len(merged.Steps) > len(impl.Trimmed(a).Steps) {
		t.Fatalf("Merged(%+v) = %+v is not right, or has more than there was", a, merged)
	}
	if !impl.Alike(merged, a) || !impl.Alike(a, merged) {
		t.Fatalf("Merged(%+v) = %+v is not Alike", a, merged)
	}
	checkLooksSame(t, merged, a)
	checkSaysSame(t, a, merged, traces)
	if again := impl.Merged(merged); !sameIa(again, merged) || !slices.Equal(impl.Classes(merged), upTo(merged.States)) {
		t.Fatalf("Merged(%+v) = %+v, and merged again %+v, with Classes %v", a, merged, again, impl.Classes(merged))
	}
}

// seen has all that chapter 9 answers of one automaton but Says.
type seen struct {
	sure    impl.Ia
	isSure  bool
	classes []int
	merged  impl.Ia
}

func seenOf(a impl.Ia) seen {
	var x seen
	x.sure, x.isSure = impl.Sure(a)
	x.classes, x.merged = impl.Classes(a), impl.Merged(a)
	return x
}

func (x seen) same(y seen) bool {
	return x.isSure == y.isSure && sameIa(x.sure, y.sure) && slices.Equal(x.classes, y.classes) && sameIa(x.merged, y.merged)
}

func (x seen) clone() seen {
	return seen{cloneIa(x.sure), x.isSure, slices.Clone(x.classes), cloneIa(x.merged)}
}

func (x seen) scribble() {
	scribbleIa(x.sure)
	scribble(x.classes)
	scribbleIa(x.merged)
}

// checkClassed holds Classes and Merged against the reference.
func checkClassed(t *testing.T, a impl.Ia) {
	t.Helper()
	if got, want := impl.Classes(a), wantedClasses(a); !slices.Equal(got, want) {
		t.Fatalf("Classes(%+v) = %v, want %v", a, got, want)
	}
	if got, want := impl.Merged(a), wantedMerged(a); !sameIa(got, want) {
		t.Fatalf("Merged(%+v) = %+v, want %+v", a, got, want)
	}
}

// checkSeen holds all answers of chapter 9 of one automaton against the reference and against promise 9.
func checkSeen(t *testing.T, a impl.Ia) seen {
	t.Helper()
	checkClassed(t, a)
	if !wantedOk(a) {
		if got := seenOf(a); !got.same(seen{}) || impl.Says(a, nil) || impl.Alike(a, a) {
			t.Fatalf("of %+v: %+v, Says %v, Alike %v", a, got, impl.Says(a, nil), impl.Alike(a, a))
		}
		return seen{}
	}
	traces := tracesOf(a, 12)
	for _, trace := range traces {
		checkSays(t, a, trace)
	}
	checkSureSays(t, a, traces)
	checkClasses(t, a)
	checkMerged(t, a, traces)
	return seenOf(a)
}

func TestSureByHand(t *testing.T) {
	tests := []struct {
		name    string
		a, want impl.Ia
	}{
		{"one state, no action", impl.Ia{States: 1}, impl.Ia{States: 1}},
		{"three states, no step", impl.Ia{States: 3, Init: 2}, impl.Ia{States: 1}},
		{"actions, no step", impl.Ia{States: 2, Init: 1, Ins: []int{0, 3}, Outs: []int{1}, Hids: []int{7}}, impl.Ia{States: 1, Ins: []int{0, 3}, Outs: []int{1}}},
		{"actions that are done elsewhere alone", withSteps(impl.Ia{States: 3, Ins: []int{0}, Outs: []int{1}}, [3]int{1, 0, 2}, [3]int{2, 1, 0}), impl.Ia{States: 1, Ins: []int{0}, Outs: []int{1}}},
		{"one of Ins without a step", withSteps(impl.Ia{States: 2, Ins: []int{2, 5}, Outs: []int{1}}, [3]int{0, 1, 1}, [3]int{1, 2, 0}),
			withSteps(impl.Ia{States: 2, Ins: []int{2, 5}, Outs: []int{1}}, [3]int{0, 1, 1}, [3]int{1, 2, 0})},
		{"one of Outs without a step", withSteps(impl.Ia{States: 2, Ins: []int{2}, Outs: []int{0, 1, 11}}, [3]int{0, 1, 1}, [3]int{1, 2, 0}),
			withSteps(impl.Ia{States: 2, Ins: []int{2}, Outs: []int{0, 1, 11}}, [3]int{0, 1, 1}, [3]int{1, 2, 0})},
		{"a row", row(3), row(3)},
		{"numbered in the order of the mixes", withSteps(impl.Ia{States: 3, Init: 2, Outs: []int{3}}, [3]int{0, 3, 2}, [3]int{1, 3, 0}, [3]int{2, 3, 1}),
			withSteps(impl.Ia{States: 3, Outs: []int{3}}, [3]int{0, 3, 1}, [3]int{1, 3, 2}, [3]int{2, 3, 0})},
		{"the actions rise, whoever does them", withSteps(impl.Ia{States: 5, Ins: []int{1, 3}, Outs: []int{0, 2}}, [3]int{0, 0, 4}, [3]int{0, 1, 3}, [3]int{0, 2, 2}, [3]int{0, 3, 1}),
			withSteps(impl.Ia{States: 5, Ins: []int{1, 3}, Outs: []int{0, 2}}, [3]int{0, 0, 1}, [3]int{0, 1, 2}, [3]int{0, 2, 3}, [3]int{0, 3, 4})},
		{"mix by mix, not to the depth", withSteps(impl.Ia{States: 5, Outs: []int{0, 1}}, [3]int{0, 0, 1}, [3]int{0, 1, 2}, [3]int{1, 0, 3}, [3]int{2, 0, 4}),
			withSteps(impl.Ia{States: 5, Outs: []int{0, 1}}, [3]int{0, 0, 1}, [3]int{0, 1, 2}, [3]int{1, 0, 3}, [3]int{2, 0, 4})},
		{"Hids alone", hops(4, 1, hop(1, 2), hop(2, 0)), impl.Ia{States: 1}},
		{"a hidden step from Init", withSteps(impl.Ia{States: 2, Outs: []int{1}, Hids: []int{2}}, [3]int{0, 2, 1}, [3]int{1, 1, 0}), withSteps(impl.Ia{States: 1, Outs: []int{1}}, [3]int{0, 1, 0})},
		{"hidden steps in a circle, from Init", withSteps(impl.Ia{States: 4, Init: 1, Ins: []int{0}, Outs: []int{5}, Hids: []int{3}}, [3]int{0, 3, 1}, [3]int{1, 3, 2}, [3]int{2, 0, 3}, [3]int{2, 3, 0}, [3]int{3, 5, 0}),
			withSteps(impl.Ia{States: 2, Ins: []int{0}, Outs: []int{5}}, [3]int{0, 0, 1}, [3]int{1, 5, 0})},
		{"hidden steps in a circle, behind an action", withSteps(impl.Ia{States: 4, Ins: []int{1}, Outs: []int{0}, Hids: []int{3}}, [3]int{0, 0, 2}, [3]int{1, 1, 1}, [3]int{1, 3, 2}, [3]int{2, 3, 3}, [3]int{3, 0, 0}, [3]int{3, 3, 1}),
			withSteps(impl.Ia{States: 2, Ins: []int{1}, Outs: []int{0}}, [3]int{0, 0, 1}, [3]int{1, 0, 0}, [3]int{1, 1, 1})},
		{"a hidden step behind an action", withSteps(impl.Ia{States: 3, Outs: []int{0, 4}, Hids: []int{1}}, [3]int{0, 0, 2}, [3]int{1, 4, 1}, [3]int{2, 1, 1}),
			withSteps(impl.Ia{States: 3, Outs: []int{0, 4}}, [3]int{0, 0, 1}, [3]int{1, 4, 2}, [3]int{2, 4, 2})},
		{"an input that one of the mix takes", withSteps(impl.Ia{States: 3, Ins: []int{0}, Hids: []int{2}}, [3]int{0, 0, 2}, [3]int{0, 2, 1}), withSteps(impl.Ia{States: 2, Ins: []int{0}}, [3]int{0, 0, 1})},
		{"an output with two Tos", withSteps(impl.Ia{States: 3, Ins: []int{2}, Outs: []int{0}}, [3]int{0, 0, 1}, [3]int{0, 0, 2}, [3]int{1, 2, 0}, [3]int{2, 2, 2}),
			withSteps(impl.Ia{States: 4, Ins: []int{2}, Outs: []int{0}}, [3]int{0, 0, 1}, [3]int{1, 2, 2}, [3]int{2, 0, 1}, [3]int{2, 2, 3}, [3]int{3, 2, 3})},
		{"an output with two Tos, of which one takes no more", withSteps(impl.Ia{States: 3, Ins: []int{2}, Outs: []int{0}}, [3]int{0, 0, 1}, [3]int{0, 0, 2}, [3]int{1, 2, 0}),
			withSteps(impl.Ia{States: 2, Ins: []int{2}, Outs: []int{0}}, [3]int{0, 0, 1}, [3]int{1, 2, 0})},
		{"two actions that make the same mix", withSteps(impl.Ia{States: 2, Ins: []int{4}, Outs: []int{1, 8}}, [3]int{0, 1, 1}, [3]int{0, 4, 1}, [3]int{0, 8, 1}),
			withSteps(impl.Ia{States: 2, Ins: []int{4}, Outs: []int{1, 8}}, [3]int{0, 1, 1}, [3]int{0, 4, 1}, [3]int{0, 8, 1})},
		{"two mixes that look the same stay two", withSteps(impl.Ia{States: 3, Outs: []int{1}}, [3]int{0, 1, 1}, [3]int{1, 1, 2}, [3]int{2, 1, 1}), withSteps(impl.Ia{States: 3, Outs: []int{1}}, [3]int{0, 1, 1}, [3]int{1, 1, 2}, [3]int{2, 1, 1})},
		{"speaker", speaker(), withSteps(impl.Ia{States: 2, Ins: []int{0}, Outs: []int{1, 2}}, [3]int{0, 0, 1}, [3]int{1, 0, 0}, [3]int{1, 1, 0})},
		{"whisperer", whisperer(), withSteps(impl.Ia{States: 3, Ins: []int{0, 5}, Outs: []int{1, 11}}, [3]int{0, 1, 1}, [3]int{1, 1, 1}, [3]int{1, 5, 2}, [3]int{2, 5, 2})},
		{"talker", talker(), withSteps(impl.Ia{States: 4, Ins: []int{0, 5}, Outs: []int{1, 11}},
			[3]int{0, 0, 1}, [3]int{0, 1, 2}, [3]int{0, 5, 0}, [3]int{0, 11, 0}, [3]int{1, 1, 3},
			[3]int{2, 0, 1}, [3]int{2, 1, 2}, [3]int{2, 5, 0}, [3]int{2, 11, 0}, [3]int{3, 1, 3}, [3]int{3, 5, 0})},
	}
	for _, x := range tests {
		got, ok := impl.Sure(x.a)
		if !ok || !sameIa(got, x.want) {
			t.Errorf("%s: Sure %+v, %v, want %+v", x.name, got, ok, x.want)
		}
		checkSeen(t, x.a)
	}
}

// hesitant takes 3 along n states in a row, but may at first be, unseen, where it takes nothing.
func hesitant(n int, steps ...[3]int) impl.Ia {
	a := withSteps(impl.Ia{States: n + 1, Ins: []int{3}, Outs: []int{4, 5}, Hids: []int{9}}, [3]int{0, 3, 1}, [3]int{0, 9, n})
	for s := 1; s < n-1; s++ {
		a = withSteps(a, [3]int{s, 3, s + 1})
	}
	return withSteps(a, steps...)
}

func TestSureStatesAtTheLimit(t *testing.T) {
	tests := []struct {
		name      string
		a         impl.Ia
		sure, env int
	}{
		{"40 in a row", row(40), 40, 40},
		{"40 in a row that goes round", withSteps(row(40), [3]int{39, 3, 0}), 40, 40},
		{"39 and a fork", forked(39), 40, 40},
		{"40 and a fork", forked(40), 0, 0},
		{"a counter of 5", counter(5), 32, 32},
		{"a counter of 6", counter(6), 0, 0},
		{"a counter of 39", counter(39), 0, 0},
		{"a counter of 39 that is not begun", changed(counter(39), func(a *impl.Ia) { a.Init = 5 }), 35, 35},
		{"39, where no environment begins", hesitant(39), 39, 1},
		{"39 and a fork, where no environment begins", hesitant(39, [3]int{38, 4, 37}, [3]int{38, 4, 38}), 40, 1},
		{"39 and two forks, where no environment begins", hesitant(39, [3]int{38, 4, 37}, [3]int{38, 4, 38}, [3]int{38, 5, 36}, [3]int{38, 5, 38}), 0, 1},
		{"400 steps", crowded(400), 2, 2},
		{"40 states, hidden in a circle", turner(40, 7), 1, 1},
	}
	for _, x := range tests {
		got, _ := impl.EnvOf(x.a)
		if sure := checkSeen(t, x.a); sure.isSure != (x.sure > 0) || sure.sure.States != x.sure || got.States != x.env {
			t.Errorf("%s: Sure with %d states, %v; EnvOf with %d", x.name, sure.sure.States, sure.isSure, got.States)
		}
	}
}

// impatient is patient, but takes none of its inputs in most states, so that they are mostly not sure.
func impatient(ahead int) impl.Ia {
	a := patient(ahead)
	a.Steps = slices.DeleteFunc(a.Steps, func(x impl.Step) bool { return x.From > 0 && x.From < 6 && occurs(a.Ins, x.Act) })
	return a
}

func TestSureStepsAtTheLimit(t *testing.T) {
	tests := []struct {
		name          string
		a             impl.Ia
		states, steps int
		env           bool
	}{
		{"360 that may be said", loud(9), 40, 360, true},
		{"400 that may be said", loud(10), 40, 400, true},
		{"401, the last in the middle", changed(withStep(loud(10), impl.Step{From: 17, Act: 10, To: 39}), func(a *impl.Ia) { a.Outs = upTo(11) }), 40, 401, false},
		{"440 that may be said", loud(11), 40, 440, false},
		{"399 of both kinds", patient(13), 34, 399, true},
		{"400 of both kinds", patient(14), 34, 400, true},
		{"401 of both kinds", patient(15), 34, 401, false},
		{"406 of both kinds", patient(20), 34, 406, false},
		{"399, most of which are not sure", impatient(13), 34, 399, true},
		{"400, most of which are not sure", impatient(14), 34, 400, true},
		{"401, most of which are not sure", impatient(15), 34, 401, true},
	}
	for _, x := range tests {
		got := checkSeen(t, x.a)
		if got.isSure != (x.steps <= 400) || got.isSure && (got.sure.States != x.states || len(got.sure.Steps) != x.steps) {
			t.Errorf("%s: Sure with %d states and %d steps, %v", x.name, got.sure.States, len(got.sure.Steps), got.isSure)
		}
		if _, ok := impl.EnvOf(x.a); ok != x.env {
			t.Errorf("%s: EnvOf %v", x.name, ok)
		}
	}
}

// times is a list with one number n times.
func times(n int, x int) []int { return slices.Repeat([]int{x}, n) }

func TestClassesByHand(t *testing.T) {
	says := func(states int, init int, steps ...[3]int) impl.Ia {
		return withSteps(impl.Ia{States: states, Init: init, Outs: []int{3, 4}}, steps...)
	}
	hides := func(states int, init int, steps ...[3]int) impl.Ia {
		return withSteps(impl.Ia{States: states, Init: init, Outs: []int{3}, Hids: []int{7, 8}}, steps...)
	}
	takes := func(states int, init int, steps ...[3]int) impl.Ia {
		return withSteps(impl.Ia{States: states, Init: init, Ins: []int{0, 5}, Outs: []int{3}}, steps...)
	}
	turning := [][3]int{{0, 3, 1}, {1, 4, 2}, {2, 3, 1}}
	tests := []struct {
		name    string
		a       impl.Ia
		classes []int
		merged  impl.Ia
	}{
		{"one state", says(1, 0), []int{0}, says(1, 0)},
		{"no steps", says(3, 0), []int{0, 0, 0}, says(1, 0)},
		{"no steps, Init is the last", says(3, 2), []int{0, 0, 0}, says(1, 0)},
		{"sets stay, though no step has them", impl.Ia{States: 2, Ins: []int{1}, Outs: []int{2, 5}, Hids: []int{3}}, []int{0, 0}, impl.Ia{States: 1, Ins: []int{1}, Outs: []int{2, 5}, Hids: []int{3}}},
		{"two alike", says(3, 0, turning...), []int{0, 1, 0}, says(2, 0, [3]int{0, 3, 1}, [3]int{1, 4, 0})},

		{"the least of a class is not come to", says(3, 1, turning...), []int{0, 1, 0}, says(2, 1, [3]int{0, 3, 1}, [3]int{1, 4, 0})},
		{"the least of the class of Init is not come to", says(3, 2, turning...), []int{0, 1, 0}, says(2, 0, [3]int{0, 3, 1}, [3]int{1, 4, 0})},
		{"a whole class is not come to", says(3, 0, [3]int{1, 3, 0}), []int{0, 1, 0}, says(1, 0)},
		{"a whole class is not come to, Init is the last", says(3, 2, [3]int{1, 3, 0}), []int{0, 1, 0}, says(1, 0)},
		{"classes that are not come to, ahead and between", says(4, 1, [3]int{0, 3, 0}, [3]int{1, 4, 3}, [3]int{2, 3, 1}), []int{0, 1, 2, 3}, says(2, 0, [3]int{0, 4, 1})},
		{"a class that is not come to, ahead of those that are", says(4, 2, [3]int{0, 3, 0}, [3]int{1, 4, 3}, [3]int{2, 3, 1}), []int{0, 1, 2, 3}, says(3, 1, [3]int{0, 4, 2}, [3]int{1, 3, 0})},
		{"one that is not come to is alike the end", says(4, 1, [3]int{1, 3, 2}, [3]int{2, 3, 3}), []int{0, 1, 2, 0}, says(3, 1, [3]int{1, 3, 2}, [3]int{2, 3, 0})},
		{"those that are not come to part nobody", says(5, 0, [3]int{0, 3, 1}, [3]int{0, 3, 2}, [3]int{3, 4, 1}, [3]int{4, 3, 2}), []int{0, 1, 1, 3, 0}, says(2, 0, [3]int{0, 3, 1})},

		{"a step to itself, and one to the other", says(2, 0, [3]int{0, 3, 0}, [3]int{1, 3, 0}), []int{0, 0}, says(1, 0, [3]int{0, 3, 0})},
		{"a step to the other, and back", says(2, 1, [3]int{0, 3, 1}, [3]int{1, 3, 0}), []int{0, 0}, says(1, 0, [3]int{0, 3, 0})},
		{"a step to itself, and none", says(2, 1, [3]int{0, 3, 0}), []int{0, 1}, says(1, 0)},
		{"steps to itself, with other actions", says(2, 1, [3]int{0, 3, 0}, [3]int{1, 4, 1}), []int{0, 1}, says(1, 0, [3]int{0, 4, 0})},
		{"a step to itself and one more, and one for both", says(3, 0, [3]int{0, 3, 0}, [3]int{0, 3, 1}, [3]int{1, 3, 1}, [3]int{2, 3, 2}), []int{0, 0, 0}, says(1, 0, [3]int{0, 3, 0})},

		{"two Tos of one class", says(4, 0, [3]int{0, 3, 1}, [3]int{0, 3, 2}, [3]int{3, 3, 1}), []int{0, 1, 1, 0}, says(2, 0, [3]int{0, 3, 1})},
		{"two Tos of two classes, and of one", says(5, 0, [3]int{0, 3, 1}, [3]int{0, 3, 2}, [3]int{2, 3, 2}, [3]int{3, 3, 1}, [3]int{4, 3, 2}), []int{0, 1, 2, 3, 2}, says(3, 0, [3]int{0, 3, 1}, [3]int{0, 3, 2}, [3]int{2, 3, 2})},
		{"the classes of Tos rise, the Tos fall", says(5, 4, [3]int{0, 3, 1}, [3]int{0, 3, 2}, [3]int{1, 4, 1}, [3]int{3, 4, 1}, [3]int{4, 3, 2}, [3]int{4, 3, 3}), []int{0, 1, 2, 1, 0}, says(3, 0, [3]int{0, 3, 1}, [3]int{0, 3, 2}, [3]int{1, 4, 1})},
		{"the Tos of the least fall", says(4, 0, [3]int{0, 3, 2}, [3]int{0, 3, 3}, [3]int{1, 4, 1}, [3]int{3, 4, 3}), []int{0, 1, 2, 1}, says(3, 0, [3]int{0, 3, 1}, [3]int{0, 3, 2}, [3]int{1, 4, 1})},
		{"less actions", says(3, 0, [3]int{0, 3, 2}, [3]int{0, 4, 2}, [3]int{1, 3, 2}), []int{0, 1, 2}, says(2, 0, [3]int{0, 3, 1}, [3]int{0, 4, 1})},

		{"what is hidden counts as any other", hides(3, 0, [3]int{0, 7, 1}, [3]int{1, 3, 0}, [3]int{2, 3, 0}), []int{0, 1, 1}, hides(2, 0, [3]int{0, 7, 1}, [3]int{1, 3, 0})},
		{"a hidden step, and none", hides(2, 0, [3]int{0, 7, 1}), []int{0, 1}, hides(2, 0, [3]int{0, 7, 1})},
		{"a hidden step to itself, and none", hides(2, 0, [3]int{0, 7, 0}), []int{0, 1}, hides(1, 0, [3]int{0, 7, 0})},
		{"two hidden actions", hides(3, 0, [3]int{0, 7, 2}, [3]int{1, 8, 2}), []int{0, 1, 2}, hides(2, 0, [3]int{0, 7, 1})},
		{"a hidden circle", hides(3, 1, [3]int{0, 7, 1}, [3]int{1, 7, 2}, [3]int{2, 7, 0}), []int{0, 0, 0}, hides(1, 0, [3]int{0, 7, 0})},
		{"hidden, and said behind it at once", hides(3, 0, [3]int{0, 3, 2}, [3]int{0, 7, 1}, [3]int{1, 3, 2}), []int{0, 1, 2}, hides(3, 0, [3]int{0, 3, 2}, [3]int{0, 7, 1}, [3]int{1, 3, 2})},

		{"two take the same", takes(4, 0, [3]int{0, 0, 1}, [3]int{0, 5, 2}, [3]int{1, 3, 3}, [3]int{2, 3, 0}, [3]int{3, 0, 2}, [3]int{3, 5, 1}), []int{0, 1, 1, 0}, takes(2, 0, [3]int{0, 0, 1}, [3]int{0, 5, 1}, [3]int{1, 3, 0})},
		{"one takes less", takes(4, 0, [3]int{0, 0, 1}, [3]int{0, 5, 2}, [3]int{1, 3, 3}, [3]int{2, 3, 0}, [3]int{3, 0, 2}), []int{0, 1, 2, 3}, takes(4, 0, [3]int{0, 0, 1}, [3]int{0, 5, 2}, [3]int{1, 3, 3}, [3]int{2, 3, 0}, [3]int{3, 0, 2})},
		{"taken and said", takes(2, 1, [3]int{0, 0, 0}, [3]int{1, 3, 1}), []int{0, 1}, takes(1, 0, [3]int{0, 3, 0})},

		{"each its own", row(4), upTo(4), row(4)},
		{"parted in a late round", ring(6, 0), upTo(6), ring(6, 0)},
		{"parted in a late round, two by two", ring(6, 1, 4), []int{0, 1, 2, 0, 1, 2}, ring(3, 1)},
		{"never parted", ring(6), times(6, 0), ring(1)},
		{"always loud", ring(3, 0, 1, 2), times(3, 0), ring(1, 0)},
		{"whisperer", whisperer(), upTo(6), withSteps(impl.Ia{States: 3, Ins: []int{0, 5}, Outs: []int{1, 11}, Hids: []int{2, 7}}, [3]int{0, 1, 0}, [3]int{0, 1, 1}, [3]int{1, 2, 2}, [3]int{2, 5, 2})},
		{"talker", talker(), upTo(6), wantedTrimmed(talker())},
	}
	for _, x := range tests {
		if got := impl.Classes(x.a); !slices.Equal(got, x.classes) {
			t.Errorf("%s: Classes %v, want %v", x.name, got, x.classes)
		}
		if got := impl.Merged(x.a); !sameIa(got, x.merged) {
			t.Errorf("%s: Merged %+v, want %+v", x.name, got, x.merged)
		}
		for init := range x.a.States {
			x.a.Init = init
			checkSeen(t, x.a)
		}
	}
}

func TestClassesOfFortyStates(t *testing.T) {
	twenty := slices.Concat(upTo(20), upTo(20))
	from := func(init int, a impl.Ia) impl.Ia {
		a.Init = init
		return a
	}
	said := impl.Ia{States: 1, Outs: []int{6}}
	tests := []struct {
		name    string
		a       impl.Ia
		classes []int
		merged  impl.Ia
	}{
		{"no steps", impl.Ia{States: 40, Init: 39}, times(40, 0), impl.Ia{States: 1}},
		{"in a row", row(40), upTo(40), row(40)},
		{"in a row, from the middle", from(37, row(40)), upTo(40), row(3)},
		{"in a row, from the last", from(39, row(40)), upTo(40), impl.Ia{States: 1, Outs: []int{3}}},
		{"in a row, the last goes to itself", withSteps(row(40), [3]int{39, 3, 39}), times(40, 0), withSteps(row(1), [3]int{0, 3, 0})},
		{"in a row that goes round", withSteps(row(40), [3]int{39, 3, 0}), times(40, 0), withSteps(row(1), [3]int{0, 3, 0})},
		{"in a hidden row", changed(row(40), hideAll), upTo(40), changed(row(40), hideAll)},
		{"in a ring with a loud one, the first", ring(40, 0), upTo(40), ring(40, 0)},
		{"in a ring with a loud one, the last", ring(40, 39), upTo(40), ring(40, 39)},
		{"in a ring with two loud ones", ring(40, 19, 39), twenty, ring(20, 19)},
		{"in a ring with two loud ones, from the middle", from(30, ring(40, 19, 39)), twenty, from(10, ring(20, 19))},
		{"in a ring with two loud ones, not alike", ring(40, 18, 39), upTo(40), ring(40, 18, 39)},
		{"400 steps", crowded(400), slices.Concat(times(10, 0), times(30, 10)), withSteps(impl.Ia{States: 2, Outs: []int{6}}, [3]int{0, 6, 0}, [3]int{0, 6, 1})},
		{"399 steps, one has one less of many", crowded(399), slices.Concat(times(10, 0), times(30, 10)), withSteps(impl.Ia{States: 2, Outs: []int{6}}, [3]int{0, 6, 0}, [3]int{0, 6, 1})},
		{"400 steps, from one that has none", from(39, crowded(400)), slices.Concat(times(10, 0), times(30, 10)), said},
		{"each step to itself", changed(impl.Ia{States: 40, Init: 20, Hids: []int{11}}, func(a *impl.Ia) {
			for s := range 40 {
				a.Steps = append(a.Steps, impl.Step{From: s, Act: 11, To: s})
			}
		}), times(40, 0), withSteps(impl.Ia{States: 1, Hids: []int{11}}, [3]int{0, 11, 0})},
	}
	for _, x := range tests {
		if got := impl.Classes(x.a); !slices.Equal(got, x.classes) {
			t.Errorf("%s: Classes %v, want %v", x.name, got, x.classes)
		}
		if got := impl.Merged(x.a); !sameIa(got, x.merged) {
			t.Errorf("%s: Merged %+v, want %+v", x.name, got, x.merged)
		}
		checkSeen(t, x.a)
	}
}

// partsOf gives all ways in which n states may be put into classes, each told by the least state of each one's class.
func partsOf(n int) [][]int {
	all := [][]int{nil}
	for s := range n {
		var more [][]int
		for _, part := range all {
			for _, least := range append(sorted(part), s) {
				more = append(more, append(slices.Clone(part), least))
			}
		}
		all = more
	}
	return all
}

// stable is the document's sentence on one class: for each step of one there is a step with the same action of the other one to a state of the same class.
func stable(a impl.Ia, part []int) bool {
	for _, x := range a.Steps {
		for t := range a.States {
			follows := func(y impl.Step) bool { return y.From == t && y.Act == x.Act && part[y.To] == part[x.To] }
			if part[t] == part[x.From] && !slices.ContainsFunc(a.Steps, follows) {
				return false
			}
		}
	}
	return true
}

// checkFewest goes through all classes that there might be: those of Classes are right, and all that are right part those that they part.
func checkFewest(t *testing.T, a impl.Ia) {
	t.Helper()
	classes := impl.Classes(a)
	right := 0
	for _, part := range partsOf(a.States) {
		if !stable(a, part) {
			continue
		}
		right++
		for s := range a.States {
			if classes[s] != classes[part[s]] {
				t.Fatalf("Classes(%+v) = %v, but %v are right, too", a, classes, part)
			}
		}
	}
	if !stable(a, classes) || right == 0 {
		t.Fatalf("Classes(%+v) = %v are not right", a, classes)
	}
}

func TestPartsAreCounted(t *testing.T) {
	for n, want := range []int{1, 1, 2, 5, 15, 52} {
		if got := len(partsOf(n)); got != want {
			t.Errorf("%d states may be parted in %d ways, not in %d", n, want, got)
		}
	}
}

// Promise 9, over all automata of two states and an action of each kind, from each Init.
func TestSeenOfAllSmallAutomata(t *testing.T) {
	for _, a := range smallAutomata() {
		checkFewest(t, a)
		for init := range 2 {
			a.Init = init
			checkSeen(t, a)
		}
	}
}

// Promise 9, over all automata of three states with an action that is said or hidden and, where the mask falls so, one that is taken.
func TestClassesOfAllAutomataOfThreeStates(t *testing.T) {
	alone := 0
	for mask := range 1 << 15 {
		a := impl.Ia{States: 3, Init: mask % 3, Ins: []int{0}, Outs: []int{1}}
		if mask%2 == 1 {
			a.Outs, a.Hids = nil, []int{1}
		}
		for s := range 3 {
			if to := mask >> (9 + 2*s) & 3; to < 3 {
				a.Steps = append(a.Steps, impl.Step{From: s, Act: 0, To: to})
			}
			for to := range 3 {
				if mask>>(3*s+to)&1 == 1 {
					a.Steps = append(a.Steps, impl.Step{From: s, Act: 1, To: to})
				}
			}
		}
		checkClassed(t, a)
		checkFewest(t, a)
		if len(sorted(impl.Classes(a))) == 3 {
			alone++
		}
		if mask%16 < 2 {
			checkSeen(t, a)
		}
	}
	if alone < 10000 || alone > 30000 {
		t.Fatalf("of %d each is its own class: too few of one kind to tell", alone)
	}
}

// Over all graphs of four states, with one action.
func TestClassesOfAllGraphsOfFourStates(t *testing.T) {
	for mask := range 1 << 16 {
		a := hops(4, mask%4)
		for i := range 16 {
			if mask>>i&1 == 1 {
				a.Steps = append(a.Steps, hop(i/4, i%4))
			}
		}
		checkClassed(t, a)
		if mask%16 == 5 {
			checkFewest(t, a)
			checkSeen(t, a)
		}
	}
}

// drawnClassy has states of which several are in one class, and some that are not come to.
func drawnClassy(d *draws, states int) impl.Ia {
	a := drawnComponent(d, states, 1+d.below(2*states))
	if d.below(3) == 0 {
		a = drawnIa(d, states, d.below(2*states))
	}
	if len(a.Ins) > 3 {
		a.Ins = a.Ins[:3]
		a.Steps = slices.DeleteFunc(a.Steps, func(x impl.Step) bool { return kindOf(a, x.Act) == "" })
	}
	for range d.below(3) {
		a = doubled(d, a)
	}
	a.Init = d.below(a.States)
	return shuffled(d, a)
}

// shuffled numbers the states otherwise.
func shuffled(d *draws, a impl.Ia) impl.Ia {
	a = cloneIa(a)
	places := upTo(a.States)
	for i := range places {
		j := i + d.below(len(places)-i)
		places[i], places[j] = places[j], places[i]
	}
	a.Init = places[a.Init]
	for i, x := range a.Steps {
		a.Steps[i] = impl.Step{From: places[x.From], Act: x.Act, To: places[x.To]}
	}
	return righted(a)
}

func TestSeenOfDrawnAutomata(t *testing.T) {
	d := draws(101)
	count := map[string]int{}
	for i := range 700 {
		a := drawnClassy(&d, 1+d.below(10))
		if i%10 == 0 {
			states := 1 + d.below(40)
			a = drawnIa(&d, states, []int{states, 2 * states, 400}[i/10%3])
		}
		got := checkSeen(t, a)
		if a.States <= 5 {
			checkFewest(t, a)
		}
		least := sorted(got.classes)
		reached := impl.Reached(a)
		if len(least) == 1 {
			count["one class"]++
		} else if len(least) == a.States {
			count["each its own"]++
		} else {
			count["some classes"]++
		}
		if got.merged.States < len(least) {
			count["a class is not come to"]++
		}
		if slices.ContainsFunc(reached, func(s int) bool { return !occurs(reached, got.classes[s]) }) {
			count["a least state is not come to"]++
		}
		if !occurs(reached, got.classes[a.Init]) {
			count["the least of Init is not come to"]++
		}
		if !sameIa(got.merged, impl.Merged(impl.Trimmed(a))) {
			count["other numbers than when it is trimmed first"]++
		}
		if !got.isSure {
			count["not sure"]++
		} else if got.sure.States > got.merged.States {
			count["more mixes than states"]++
		} else if got.sure.States < got.merged.States && got.sure.States > 2 {
			count["less mixes than states"]++
		}
	}
	for _, kind := range []string{"one class", "each its own", "some classes", "a class is not come to", "a least state is not come to", "the least of Init is not come to", "other numbers than when it is trimmed first", "not sure", "more mixes than states", "less mixes than states"} {
		if count[kind] < 10 {
			t.Fatalf("%v: too few of %q to tell", count, kind)
		}
	}
}

func TestSeenOfSpoiltAutomata(t *testing.T) {
	d := draws(102)
	wrong := 0
	for range 1500 {
		a := drawnComponent(&d, 1+d.below(5), 1+d.below(8))
		spoil(&d, &a)
		if !wantedOk(a) {
			wrong++
		}
		checkSeen(t, a)
	}
	if wrong < 300 || wrong > 1400 {
		t.Fatalf("%d of 1500 are wrong: too few of one kind to tell", wrong)
	}
}

func TestSeenOfGoodAutomata(t *testing.T) {
	for name, a := range goodAutomata() {
		t.Run(name, func(t *testing.T) { checkSeen(t, a) })
	}
}

func TestNothingSeenOfWrongAutomata(t *testing.T) {
	for name, a := range wrongAutomata() {
		if wantedOk(a) {
			t.Fatalf("%s: %+v is IaOk", name, a)
		}
		if got := seenOf(a); !got.same(seen{}) {
			t.Errorf("%s: %+v", name, got)
		}
		all := impl.Ia{States: 1, Ins: a.Ins, Outs: a.Outs}
		for _, b := range []impl.Ia{a, {}, {States: 1}, all, impl.Trimmed(a), impl.Merged(a)} {
			if impl.Alike(a, b) || impl.Alike(b, a) {
				t.Errorf("%s: Alike with %+v", name, b)
			}
		}
		traces := append(listsOf([]int{0, 1, 2, 3, 6}, 2), a.Ins, a.Outs, a.Hids, []int{-1}, []int{12})
		for _, trace := range traces {
			if impl.Says(a, trace) {
				t.Errorf("%s: Says %v", name, trace)
			}
		}
	}
}

// A second state for each one, whose steps lead to either, is in the class of the first one.
func TestDoubledIsMergedAgain(t *testing.T) {
	d := draws(103)
	several := 0
	for range 400 {
		a := drawnClassy(&d, 1+d.below(6))
		both := doubled(&d, a)
		if both.States == a.States {
			continue
		}
		if got, want := impl.Classes(both), impl.Classes(a); !slices.Equal(got, slices.Concat(want, want)) {
			t.Fatalf("Classes(%+v) = %v, want %v twice", both, got, want)
		}
		want := impl.Merged(a)
		if got := impl.Merged(both); !sameIa(got, want) {
			t.Fatalf("Merged(%+v) = %+v, want %+v", both, got, want)
		}
		both.Init += a.States
		if got := impl.Merged(both); !sameIa(got, want) {
			t.Fatalf("Merged(%+v) = %+v, want %+v", both, got, want)
		}
		if want.States > 1 {
			several++
		}
	}
	if several < 100 {
		t.Fatalf("%d of several states: too few to tell", several)
	}
}

// Numbered otherwise, those that were in one class are in one class again.
func TestNumbersDoNotMatterToWhoLooks(t *testing.T) {
	d := draws(104)
	for range 300 {
		a := drawnClassy(&d, 1+d.below(8))
		b := shuffled(&d, a)
		checkSameBut(t, a, b)
		if x, y := sorted(impl.Classes(a)), sorted(impl.Classes(b)); len(x) != len(y) {
			t.Fatalf("%+v has %d classes, numbered otherwise %d", a, len(x), len(y))
		}
	}
}

// checkSameBut is for two that are the same but for the numbers of their states, and those that are not come to.
func checkSameBut(t *testing.T, a impl.Ia, b impl.Ia) {
	t.Helper()
	if !impl.Alike(a, b) || !impl.Alike(b, a) {
		t.Fatalf("%+v and %+v are not Alike", a, b)
	}
	checkLooksSame(t, a, b)
	checkSaysSame(t, a, b, tracesOf(a, 8))
	x, okX := impl.Sure(a)
	y, okY := impl.Sure(b)
	if okX != okY || !sameIa(x, y) {
		t.Fatalf("Sure(%+v) = %+v, %v, but Sure(%+v) = %+v, %v", a, x, okX, b, y, okY)
	}
	x, okX = impl.EnvOf(a)
	y, okY = impl.EnvOf(b)
	if okX != okY || !sameIa(x, y) {
		t.Fatalf("EnvOf(%+v) = %+v, %v, but EnvOf(%+v) = %+v, %v", a, x, okX, b, y, okY)
	}
	if x, y = impl.Merged(a), impl.Merged(b); x.States != y.States || len(x.Steps) != len(y.Steps) {
		t.Fatalf("Merged(%+v) = %+v, but Merged(%+v) = %+v", a, x, b, y)
	}
}

// Those of one class stand in the place of one another.
func TestClassesAreInSim(t *testing.T) {
	d := draws(105)
	told := 0
	for range 200 {
		a := drawnClassy(&d, 1+d.below(8))
		classes, sim := impl.Classes(a), impl.Sim(a, a)
		for s := range a.States {
			for u := range a.States {
				if classes[s] != classes[u] {
					continue
				}
				if !slices.Contains(sim, impl.Pair{A: s, B: u}) {
					t.Fatalf("%+v: %d and %d are in one class, but Sim is %v", a, s, u, sim)
				}
				if s != u {
					told++
				}
			}
		}
	}
	if told < 500 {
		t.Fatalf("%d pairs: too few to tell", told)
	}
}

func TestSaysByHand(t *testing.T) {
	// It says 1 at once, behind a hidden step 11, and takes 0 before; 5 and 6 are in its sets without a step.
	h := withSteps(impl.Ia{States: 4, Ins: []int{0, 5}, Outs: []int{1, 6, 11}, Hids: []int{2, 3}},
		[3]int{0, 0, 3}, [3]int{0, 1, 0}, [3]int{0, 2, 1}, [3]int{1, 11, 2}, [3]int{3, 3, 0}, [3]int{3, 3, 3})
	tests := []struct {
		name  string
		trace []int
		want  bool
	}{
		{"no actions", nil, true},
		{"no actions, an empty list", []int{}, true},
		{"an output", []int{1}, true},
		{"an output behind a hidden step", []int{11}, true},
		{"an input", []int{0}, true},
		{"an input and an output behind a hidden step", []int{0, 1}, true},
		{"several", []int{1, 0, 1, 0, 0, 1, 11}, true},
		{"several, and one that comes too late", []int{1, 0, 11, 1}, false},
		{"an input that comes too late", []int{11, 0}, false},
		{"an output twice that is said once", []int{11, 11}, false},
		{"one of Ins without a step", []int{5}, false},
		{"one of Outs without a step", []int{6}, false},
		{"one of Outs without a step, behind others", []int{0, 6}, false},
		{"hidden", []int{2}, false},
		{"hidden, the other one", []int{3}, false},
		{"hidden, ahead of what it leads to", []int{2, 11}, false},
		{"hidden, behind an input", []int{0, 3}, false},
		{"hidden, at the end", []int{0, 1, 2}, false},
		{"hidden, behind what leads nowhere", []int{11, 11, 2}, false},
		{"of no set", []int{4}, false},
		{"of no set, ahead of others", []int{4, 1}, false},
		{"of no set, behind others", []int{1, 4}, false},
		{"of no set, between others", []int{0, 4, 1}, false},
		{"below 0", []int{-1}, false},
		{"below 0, behind others", []int{0, 1, -1}, false},
		{"past the last action", []int{12}, false},
		{"past the last action, behind others", []int{1, 12}, false},
		{"16 past an action", []int{17}, false},
		{"64 past an action", []int{65}, false},
		{"64 ahead of an action", []int{-63}, false},
		{"least", []int{math.MinInt}, false},
		{"most", []int{1, math.MaxInt}, false},
	}
	for _, x := range tests {
		if got := impl.Says(h, x.trace); got != x.want {
			t.Errorf("%s: Says %v", x.name, got)
		}
		checkSays(t, h, x.trace)
	}
	for _, trace := range listsOf([]int{-1, 0, 1, 2, 3, 11, 12}, 4) {
		checkSays(t, h, trace)
	}
	long := slices.Repeat([]int{0, 1, 1}, 20000)
	for _, more := range []int{0, 1, 11} {
		if !impl.Says(h, append(slices.Clone(long), more)) {
			t.Errorf("a long trace and %d: not said", more)
		}
	}
	for _, more := range []int{-1, 2, 3, 4, 5, 6, 12} {
		if impl.Says(h, append(slices.Clone(long), more)) {
			t.Errorf("a long trace and %d: said", more)
		}
	}
}

// From Init alone something is said.
func TestSaysFromInit(t *testing.T) {
	for init := range 40 {
		a := row(40)
		a.Init = init
		for n := range 41 {
			if got := impl.Says(a, times(n, 3)); got != (n <= 39-init) {
				t.Fatalf("from %d, %d actions: Says %v", init, n, got)
			}
		}
	}
}

func TestSaysOfDrawnTraces(t *testing.T) {
	d := draws(106)
	count := map[bool]int{}
	for range 400 {
		a := drawnComponent(&d, 1+d.below(6), 2+d.below(15))
		acts := slices.Concat(a.Ins, a.Outs)
		for range 10 {
			trace := drawnList(&d, d.below(6), 13)
			for i := range trace {
				if len(acts) > 0 && d.below(20) > 0 {
					trace[i] = acts[d.below(len(acts))]
				}
			}
			says := checkSays(t, a, trace)
			count[says]++
			if sure, ok := impl.Sure(a); ok && impl.Says(sure, trace) != says {
				t.Fatalf("Says(%+v, %v) = %v, of Sure it is not", a, trace, says)
			}
		}
	}
	if count[true] < 500 || count[false] < 500 {
		t.Fatalf("%v: too few of one kind to tell", count)
	}
}

// checkAlike holds Alike against the reference, in both orders.
func checkAlike(t *testing.T, a impl.Ia, b impl.Ia) bool {
	t.Helper()
	want := wantedAlike(a, b)
	if impl.Alike(a, b) != want || impl.Alike(b, a) != want {
		t.Fatalf("Alike(%+v, %+v) = %v, the other way round %v, want %v", a, b, impl.Alike(a, b), impl.Alike(b, a), want)
	}
	return want
}

func TestAlikeByHand(t *testing.T) {
	one := func(ins []int, outs []int, hids []int) impl.Ia {
		return impl.Ia{States: 1, Ins: ins, Outs: outs, Hids: hids}
	}
	p := mini(2, [3]int{0, 0, 1}, [3]int{1, 1, 0})
	late := mini(4, [3]int{0, 1, 1}, [3]int{1, 1, 2}, [3]int{1, 6, 3})
	early := mini(5, [3]int{0, 1, 1}, [3]int{0, 1, 2}, [3]int{1, 1, 3}, [3]int{2, 6, 4})
	tests := []struct {
		name       string
		a, b       impl.Ia
		forth, and bool // a refines b, and b refines a
	}{
		{"no actions at all", one(nil, nil, nil), one(nil, nil, nil), true, true},
		{"itself", whisperer(), whisperer(), true, true},
		{"itself, with hidden steps in a circle", turner(5, 2), turner(5, 2), true, true},
		{"merged", changed(ring(6, 1, 4), func(a *impl.Ia) { a.Init = 5 }), changed(ring(3, 1), func(a *impl.Ia) { a.Init = 2 }), true, true},
		{"trimmed", talker(), impl.Trimmed(talker()), true, true},
		{"from another Init", ring(6, 1, 4), changed(ring(6, 1, 4), func(a *impl.Ia) { a.Init = 1 }), false, false},
		{"from another Init of the same class", ring(6, 1, 4), changed(ring(6, 1, 4), func(a *impl.Ia) { a.Init = 3 }), true, true},
		{"one says less", mini(2, [3]int{0, 0, 1}), p, true, false},
		{"one says more", p, mini(2, [3]int{0, 0, 1}), false, true},
		{"one takes more", withStep(p, impl.Step{From: 1, Act: 0, To: 1}), p, true, false},
		{"one takes less", mini(2, [3]int{1, 1, 0}), p, false, true},
		{"one does nothing", mini(1), p, false, true},
		{"one takes less and says less", mini(1), mini(1, [3]int{0, 0, 0}, [3]int{0, 1, 0}), false, false},
		{"one takes more and says more", mini(1, [3]int{0, 0, 0}, [3]int{0, 1, 0}), p, false, false},
		{"one says less in a late state", row(39), row(40), true, false},
		{"one has more of Ins", one([]int{0}, []int{1}, nil), one(nil, []int{1}, nil), true, false},
		{"one has less of Outs", one([]int{0}, nil, nil), one([]int{0}, []int{1}, nil), true, false},
		{"one has more of Ins and of Outs", one([]int{0}, []int{1}, nil), one(nil, nil, nil), false, false},
		{"one has more of Ins, the other one more of Outs", one([]int{0}, nil, nil), one(nil, []int{1}, nil), true, false},
		{"other Ins", one([]int{0}, nil, nil), one([]int{1}, nil, nil), false, false},
		{"other Outs", one(nil, []int{0}, nil), one(nil, []int{1}, nil), false, false},
		{"Ins and Outs the other way round", one([]int{0}, []int{1}, nil), one([]int{1}, []int{0}, nil), false, false},
		{"Hids in one alone", one([]int{0}, []int{1}, []int{2, 3}), one([]int{0}, []int{1}, nil), true, true},
		{"other Hids", changed(turner(3, 2), func(a *impl.Ia) { a.Outs = []int{3} }), changed(turner(2, 4), func(a *impl.Ia) { a.Outs = []int{3} }), true, true},
		{"a hidden step ahead", mini(3, [3]int{0, 2, 1}, [3]int{1, 1, 2}), mini(2, [3]int{0, 1, 1}), true, true},
		{"a hidden step behind", mini(3, [3]int{0, 1, 1}, [3]int{1, 2, 2}), mini(2, [3]int{0, 1, 1}), true, true},
		{"a hidden step to itself", mini(1, [3]int{0, 2, 0}), mini(1), true, true},
		{"a hidden step to where it takes less", mini(2, [3]int{0, 0, 0}, [3]int{0, 2, 1}), mini(1, [3]int{0, 0, 0}), false, true},
		{"a hidden step to where it says more", mini(2, [3]int{0, 2, 1}, [3]int{1, 6, 0}), mini(1), false, true},
		{"the same traces, but one chooses late", late, early, false, true},
		{"of other classes", mini(3, [3]int{0, 1, 1}, [3]int{0, 1, 2}, [3]int{1, 6, 2}), mini(3, [3]int{0, 1, 1}, [3]int{1, 6, 2}), true, true},
		{"the first is not right", impl.Ia{States: 1, Ins: []int{2, 1}}, one([]int{1, 2}, nil, nil), false, false},
		{"the second is not right", one([]int{1, 2}, nil, nil), impl.Ia{States: 1, Ins: []int{2, 1}}, false, false},
		{"both are not right", impl.Ia{}, impl.Ia{}, false, false},
		{"41 states", one(nil, []int{3}, nil), impl.Ia{States: 41, Outs: []int{3}}, false, false},
	}
	for _, x := range tests {
		if forth, and := impl.Refines(x.a, x.b), impl.Refines(x.b, x.a); forth != x.forth || and != x.and {
			t.Errorf("%s: Refines %v, the other way round %v", x.name, forth, and)
		}
		if got := checkAlike(t, x.a, x.b); got != (x.forth && x.and) {
			t.Errorf("%s: Alike %v", x.name, got)
		}
	}
	// The one that chooses late has the traces of the other one all the same.
	checkSaysSame(t, late, early, listsOf([]int{1, 6}, 3))
}

func TestAlikeOfAllSmallTalkers(t *testing.T) {
	talkers := smallTalkers(0, 1)
	alike := 0
	for i, a := range talkers {
		for j, b := range talkers[:i+1] {
			a.Init, b.Init = (i+j)%2, (i/2+j/3)%2
			if checkAlike(t, a, b) {
				alike++
				checkSaysSame(t, a, b, listsOf([]int{1}, 3))
			}
		}
	}
	if alike < 300 {
		t.Fatalf("%d are Alike: too few to tell", alike)
	}
}

// looksLike is Alike of a, or nearly: one that is doubled, with a hidden step more, merged, trimmed or changed.
func looksLike(d *draws, a impl.Ia) impl.Ia {
	switch d.below(7) {
	case 0:
		return doubled(d, a)
	case 1:
		return impl.Merged(a)
	case 2:
		return impl.Trimmed(a)
	case 3:
		return shuffled(d, a)
	}
	return drawnRival(d, a)
}

// Who is Alike what is Alike a third is Alike the third; and one refines what the other one refines.
func TestAlikeGoesOn(t *testing.T) {
	d := draws(107)
	told, others := 0, 0
	for range 30 {
		family := []impl.Ia{drawnComponent(&d, 1+d.below(4), 1+d.below(8))}
		for range 7 {
			family = append(family, looksLike(&d, family[d.below(len(family))]))
		}
		for _, a := range family {
			for _, b := range family {
				if !checkAlike(t, a, b) {
					others++
					continue
				}
				for _, c := range family {
					if impl.Alike(a, c) != impl.Alike(b, c) || impl.Refines(a, c) != impl.Refines(b, c) || impl.Refines(c, a) != impl.Refines(c, b) {
						t.Fatalf("%+v and %+v are Alike, but not to %+v", a, b, c)
					}
					told++
				}
			}
		}
		checkGoesOn(t, family)
	}
	if told < 3000 || others < 500 {
		t.Fatalf("%d are told of, %d pairs are not Alike: too few to tell", told, others)
	}
}

// What is sure has the traces, but takes what was not sure: it need not be Alike.
func TestSureNeedNotBeAlike(t *testing.T) {
	sure, ok := impl.Sure(speaker())
	if !ok || impl.Alike(sure, speaker()) || !impl.Refines(sure, speaker()) {
		t.Fatalf("%+v, %v: Alike %v, Refines %v", sure, ok, impl.Alike(sure, speaker()), impl.Refines(sure, speaker()))
	}
}

// Promise 2, seen from outside: trimmed once or twice, an automaton is the same for who looks.
func TestTrimmedLooksTheSame(t *testing.T) {
	d := draws(108)
	all := []impl.Ia{whisperer(), talker(), speaker(), changed(row(40), func(a *impl.Ia) { a.Init = 30 }), counter(5), forked(39)}
	for range 300 {
		all = append(all, drawnIa(&d, 1+d.below(12), d.below(20)), drawnClassy(&d, 1+d.below(6)))
	}
	less := 0
	for _, a := range all {
		trimmed := impl.Trimmed(a)
		if again := impl.Trimmed(trimmed); !sameIa(again, trimmed) || len(impl.Reached(trimmed)) != trimmed.States {
			t.Fatalf("Trimmed(%+v) = %+v, trimmed again %+v", a, trimmed, again)
		}
		checkSameBut(t, a, trimmed)
		if trimmed.States < a.States {
			less++
		}
	}
	if less < 100 {
		t.Fatalf("%d have less states: too few to tell", less)
	}
}

// checkBothOrders is promise 5, seen from outside: it does not matter who comes first.
func checkBothOrders(t *testing.T, a impl.Ia, b impl.Ia) string {
	t.Helper()
	x, okX := impl.Composed(a, b)
	y, okY := impl.Composed(b, a)
	if okX != okY {
		t.Fatalf("Composed(%+v, %+v): %v, the other way round %v", a, b, okX, okY)
	}
	if !okX {
		return "not composed"
	}
	checkSameBut(t, x, y)
	checkMerged(t, x, tracesOf(x, 6))
	if len(x.Ins)+len(x.Outs) > 0 && x.States > 2 {
		return "several states"
	}
	return "composed"
}

func TestComposedLooksTheSameInBothOrders(t *testing.T) {
	p := withSteps(impl.Ia{States: 2, Ins: []int{0}, Outs: []int{1}}, [3]int{0, 0, 1}, [3]int{1, 1, 0})
	pushed := withSteps(impl.Ia{States: 3, Ins: []int{1, 8}, Outs: []int{0}}, [3]int{0, 0, 1}, [3]int{1, 1, 0}, [3]int{1, 8, 2}, [3]int{2, 0, 2}, [3]int{2, 1, 2})
	tests := []struct {
		name string
		a, b impl.Ia
		want string
	}{
		{"client and server", client(), server(), "several states"},
		{"server and store", server(), store(), "several states"},
		{"one that does not wait", p, eager(), "not composed"},
		{"one that is pushed", pushed, server(), "several states"},
		{"nothing in common", row(3), impl.Ia{States: 2, Init: 1, Hids: []int{1}}, "several states"},
		{"two that do nothing", impl.Ia{States: 2}, impl.Ia{States: 3, Init: 2}, "composed"},
		{"no room", row(10), turner(10, 1), "not composed"},
		{"one is not right", row(41), impl.Ia{States: 1}, "not composed"},
	}
	for _, x := range tests {
		if got := checkBothOrders(t, x.a, x.b); got != x.want {
			t.Errorf("%s: %s", x.name, got)
		}
	}
	d := draws(109)
	count := map[string]int{}
	for i := range 250 {
		a, b := drawnTalkers(&d, []int{1, 3, 6}[i%3])
		count[checkBothOrders(t, a, b)]++
	}
	talkers, others := smallTalkers(0, 1), append(smallTalkers(1, 0), smallTalkers(1, 2)...)
	for range 600 {
		a, b := talkers[d.below(len(talkers))], others[d.below(len(others))]
		a.Init, b.Init = d.below(2), d.below(2)
		count[checkBothOrders(t, a, b)]++
	}
	for _, kind := range []string{"not composed", "composed", "several states"} {
		if count[kind] < 50 {
			t.Fatalf("%v: too few of %q to tell", count, kind)
		}
	}
}

// Promise 8, seen from outside: wherever there is room for three, they are the same in any order.
func TestAssembledLooksTheSameInAnyOrder(t *testing.T) {
	d := draws(110)
	groups := [][]impl.Ia{{client(), server(), store()}, {row(2), {States: 3, Hids: []int{1}}, turner(4, 5)}}
	for i := range 500 {
		groups = append(groups, drawnGroup(&d, 3, 3, 3+i%4))
	}
	several := 0
	for _, list := range groups {
		var came []impl.Ia
		for _, order := range ordersOf(list) {
			if all, ok := impl.Assembled(order); ok {
				came = append(came, all)
			}
		}
		for i := range came {
			checkSameBut(t, came[0], came[i])
		}
		if len(came) == 6 && came[0].States > 3 {
			several++
		}
	}
	if several < 30 {
		t.Fatalf("%d of several states: too few to tell", several)
	}
}

// checkMergedInThePlace is promise 9 beside another one: merged, an automaton goes together with those with which it went, and the same comes.
func checkMergedInThePlace(t *testing.T, a impl.Ia, e impl.Ia) string {
	t.Helper()
	merged := impl.Merged(a)
	_, isA := impl.Product(a, e)
	_, isM := impl.Product(merged, e)
	if !isA || !isM {
		return "no Product"
	}
	if impl.Legal(a, e) != impl.Legal(merged, e) || impl.Compatible(a, e) != impl.Compatible(merged, e) {
		t.Fatalf("with %+v: of %+v Legal %v, Compatible %v; merged %v, %v", e, a, impl.Legal(a, e), impl.Compatible(a, e), impl.Legal(merged, e), impl.Compatible(merged, e))
	}
	x, ok := impl.Composed(a, e)
	y, is := impl.Composed(merged, e)
	if ok != is {
		t.Fatalf("Composed(%+v, %+v): %v, merged %v", a, e, ok, is)
	}
	if !ok {
		return "a clash"
	}
	checkLooksSame(t, x, y)
	if !impl.Alike(x, y) || !slices.Equal(sizesOf(impl.Merged(x)), sizesOf(impl.Merged(y))) {
		t.Fatalf("%+v with %+v: %+v, merged %+v", a, e, x, y)
	}
	if merged.States == a.States {
		return "composed, as it was"
	}
	return "composed"
}

func sizesOf(a impl.Ia) []int { return []int{a.States, len(a.Steps)} }

// Promises 6 and 9: the environment of one that is merged is the same for who looks, and legal for the one that it was.
func TestMergedInThePlace(t *testing.T) {
	d := draws(111)
	count := map[string]int{}
	for range 1500 {
		a := drawnComponent(&d, 1+d.below(4), 1+d.below(6))
		if d.below(2) == 0 {
			a = doubled(&d, a)
		}
		if env, ok := impl.EnvOf(a); ok {
			ofMerged, is := impl.EnvOf(impl.Merged(a))
			if !is || ofMerged.States > env.States || !impl.Alike(env, ofMerged) {
				t.Fatalf("EnvOf(%+v) = %+v, merged %+v, %v", a, env, ofMerged, is)
			}
			if _, room := impl.Product(a, ofMerged); room && !impl.Legal(a, ofMerged) {
				t.Fatalf("%+v, the environment of it merged, is not Legal for %+v", ofMerged, a)
			}
		}
		count[checkMergedInThePlace(t, a, drawnThird(&d, a))]++
	}
	for _, kind := range []string{"no Product", "a clash", "composed", "composed, as it was"} {
		if count[kind] < 20 {
			t.Fatalf("%v: too few of %q to tell", count, kind)
		}
	}
}

// seenForMemory has one of each outcome: not IaOk, not sure for states or for steps, some classes, all states kept, some taken away.
func seenForMemory() map[string]impl.Ia {
	all := viewsForMemory()
	all["ring"], all["in a row that goes round"] = ring(6, 1, 4), withSteps(row(4), [3]int{3, 3, 0})
	all["impatient"], all["401 steps of Sure"] = impatient(14), impatient(15)
	all["two take the same"] = withSteps(impl.Ia{States: 3, Ins: []int{0, 5}, Outs: []int{3}, Hids: []int{1}}, [3]int{0, 0, 1}, [3]int{0, 5, 2}, [3]int{1, 3, 0}, [3]int{2, 3, 0})
	d := draws(112)
	for i := range 40 {
		all[fmt.Sprint("classy ", i)] = drawnClassy(&d, 1+d.below(5))
	}
	return all
}

var tracesForMemory = [][]int{nil, {0}, {1, 0}, {1, 1, 1}, {0, 1, 99}, {3, 4, 3}}

func TestSeenLeavesArgumentsAsTheyAre(t *testing.T) {
	for name, was := range seenForMemory() {
		a := roomyIa(was)
		got := seenOf(a)
		checkIaUntouched(t, name, a, was)
		got.scribble()
		checkIaUntouched(t, name+", answers written over", a, was)
		for _, wasTrace := range tracesForMemory {
			trace := roomy(wasTrace)
			impl.Says(a, trace)
			checkIaUntouched(t, name+", Says", a, was)
			checkUntouched(t, name+", Says", trace, wasTrace)
		}
		for _, wasB := range []impl.Ia{was, impl.Merged(was), whisperer()} {
			b := roomyIa(wasB)
			impl.Alike(a, b)
			checkIaUntouched(t, name+", Alike", a, was)
			checkIaUntouched(t, name+", Alike", b, wasB)
		}
	}
}

func TestSeenSharesNoMemoryWithArguments(t *testing.T) {
	for name, was := range seenForMemory() {
		a := roomyIa(was)
		got := seenOf(a)
		want := got.clone()
		scribbleIa(a)
		if !got.same(want) {
			t.Fatalf("%s: an answer shares memory with an argument: %+v, want %+v", name, got, want)
		}
	}
}

func TestListsOfSeenShareNoMemory(t *testing.T) {
	for name, a := range seenForMemory() {
		checkListsApart(t, name+", Sure", func() impl.Ia {
			sure, _ := impl.Sure(a)
			return sure
		})
		checkListsApart(t, name+", Merged", func() impl.Ia { return impl.Merged(a) })
	}
}

// No call keeps anything: an answer that is written over is not told again.
func TestNothingSeenIsKeptForAnother(t *testing.T) {
	for name, a := range seenForMemory() {
		want := seen{classes: wantedClasses(a), merged: wantedMerged(a)}
		want.sure, want.isSure = wantedWatcher(a).wantedSure()
		for range 3 {
			got := seenOf(a)
			if !got.same(want) {
				t.Fatalf("%s: %+v, want %+v", name, got, want)
			}
			got.scribble()
		}
	}
}

// The lists of an argument may lie in one piece of memory, and the trace be one of them.
func TestSeenOfListsInOnePiece(t *testing.T) {
	was := []int{0, 5, 1, 11, 2, 7}
	piece := slices.Clone(was)
	a := whisperer()
	a.Ins, a.Outs, a.Hids = piece[:2], piece[2:4], piece[4:]
	for i := range len(piece) {
		for j := i; j <= len(piece); j++ {
			if got := impl.Says(a, piece[i:j]); got != wantedSays(whisperer(), was[i:j]) {
				t.Fatalf("Says of %v: %v", was[i:j], got)
			}
		}
	}
	if !impl.Says(a, piece[2:3]) || !impl.Says(a, piece[:0]) {
		t.Fatal("Says of its own lists")
	}
	if !impl.Alike(a, a) {
		t.Fatal("not Alike itself")
	}
	checkSeen(t, a)
	seenOf(a).scribble()
	if !slices.Equal(piece, was) || !sameIa(a, whisperer()) {
		t.Fatal("the argument was written into", piece)
	}
	steps := withSteps(row(4), [3]int{3, 3, 0}).Steps
	one := []int{3}
	checkSeen(t, impl.Ia{States: 4, Outs: one, Steps: steps})
	if merged := impl.Merged(impl.Ia{States: 4, Outs: one, Hids: one[:0], Ins: one[:0:0], Steps: steps}); !sameIa(merged, withSteps(row(1), [3]int{0, 3, 0})) {
		t.Fatal(merged)
	}
}

func TestSeenDoesNotReadSpareRoom(t *testing.T) {
	a := whisperer()
	a.Init, a.Ins, a.Outs, a.Hids, a.Steps = 0, a.Ins[:2], a.Outs[:1], a.Hids[:1], a.Steps[:5]
	got := checkSeen(t, a)
	want := seen{
		withSteps(impl.Ia{States: 4, Ins: []int{0, 5}, Outs: []int{1}}, [3]int{0, 0, 1}, [3]int{0, 1, 2}, [3]int{0, 5, 0}, [3]int{1, 0, 3}, [3]int{1, 1, 2}, [3]int{3, 0, 3}, [3]int{3, 1, 2}),
		true,
		[]int{0, 1, 2, 2, 2, 2},
		withSteps(impl.Ia{States: 3, Ins: []int{0, 5}, Outs: []int{1}, Hids: []int{2}}, [3]int{0, 0, 2}, [3]int{0, 2, 1}, [3]int{0, 5, 0}, [3]int{1, 0, 1}, [3]int{1, 1, 2}),
	}
	if !got.same(want) {
		t.Fatalf("%+v, want %+v", got, want)
	}
	trace := []int{5, 0, 11, 99}
	if !impl.Says(a, trace[:2]) || impl.Says(a, trace[:3]) || !impl.Says(a, trace[:0]) {
		t.Fatal("the room behind a trace")
	}
	b := changed(a, func(a *impl.Ia) {})
	if !impl.Alike(a, b) || impl.Alike(a, whisperer()) {
		t.Fatal("the room behind the lists of one that is Alike")
	}
}
