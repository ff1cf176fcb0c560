package tests

import (
	"fmt"
	"math"
	"slices"
	"testing"

	"loop.example/g00645/impl"
)

// wantedOk is the document's sentence on IaOk, point by point, with no code of the program.
func wantedOk(a impl.Ia) bool {
	isState := func(s int) bool { return s >= 0 && s < a.States }
	if a.States < 1 || a.States > 40 || !isState(a.Init) || len(a.Steps) > 400 {
		return false
	}
	kinds := map[int]string{}
	for kind, set := range map[string][]int{"in": a.Ins, "out": a.Outs, "hid": a.Hids} {
		for i, x := range set {
			if kinds[x] != "" || x < 0 || x > 11 || i > 0 && set[i-1] > x {
				return false
			}
			kinds[x] = kind
		}
	}
	type place struct{ from, act int }
	inputs := map[place]int{}
	for i, x := range a.Steps {
		if !isState(x.From) || !isState(x.To) || kinds[x.Act] == "" {
			return false
		}
		if i > 0 && slices.Compare(numbersOf(a.Steps[i-1]), numbersOf(x)) >= 0 {
			return false
		}
		if kinds[x.Act] == "in" {
			inputs[place{x.From, x.Act}]++
		}
	}
	for _, count := range inputs {
		if count > 1 {
			return false
		}
	}
	return true
}

func numbersOf(x impl.Step) []int { return []int{x.From, x.Act, x.To} }

// sorted gives each number of a list once, rising.
func sorted(list []int) []int {
	list = slices.Clone(list)
	slices.Sort(list)
	return slices.Compact(list)
}

// wantedActs and those below answer for an IaOk automaton alone.
func wantedActs(a impl.Ia, s int, set []int) []int {
	var acts []int
	for _, x := range a.Steps {
		if x.From == s && occurs(set, x.Act) {
			acts = append(acts, x.Act)
		}
	}
	return sorted(acts)
}

func wantedAfter(a impl.Ia, s int, act int) []int {
	var tos []int
	for _, x := range a.Steps {
		if x.From == s && x.Act == act {
			tos = append(tos, x.To)
		}
	}
	return sorted(tos)
}

// wantedReached goes over all steps again and again till nothing is new, in no order of states.
func wantedReached(a impl.Ia) []int {
	reached := []int{a.Init}
	for range a.States {
		for _, x := range a.Steps {
			if occurs(reached, x.From) {
				reached = append(reached, x.To)
			}
		}
		reached = sorted(reached)
	}
	return reached
}

func wantedTrimmed(a impl.Ia) impl.Ia {
	reached := wantedReached(a)
	trimmed := impl.Ia{States: len(reached), Init: slices.Index(reached, a.Init), Ins: a.Ins, Outs: a.Outs, Hids: a.Hids}
	for _, x := range a.Steps {
		from, to := slices.Index(reached, x.From), slices.Index(reached, x.To)
		if from >= 0 && to >= 0 {
			trimmed.Steps = append(trimmed.Steps, impl.Step{From: from, Act: x.Act, To: to})
		}
	}
	return trimmed
}

// iaAnswers are those of the functions that answer a list.
func iaAnswers(a impl.Ia, s int, act int) map[string][]int {
	return map[string][]int{
		"ActsOf":  impl.ActsOf(a),
		"Taken":   impl.Taken(a, s),
		"Said":    impl.Said(a, s),
		"Done":    impl.Done(a, s),
		"After":   impl.After(a, s, act),
		"Reached": impl.Reached(a),
	}
}

func checkNothing(t *testing.T, a impl.Ia) {
	t.Helper()
	if impl.IaOk(a) {
		t.Fatalf("IaOk(%+v) is true", a)
	}
	states := []int{math.MinInt, -1, 0, 1, 2, 39, 40, math.MaxInt, a.Init, a.States, a.States - 1}
	acts := []int{math.MinInt, -1, 0, 1, 2, 11, 12, math.MaxInt}
	for _, x := range a.Steps[:min(len(a.Steps), 5)] {
		states, acts = append(states, x.From, x.To), append(acts, x.Act)
	}
	for _, s := range states {
		for _, act := range acts {
			for name, got := range iaAnswers(a, s, act) {
				if len(got) != 0 {
					t.Fatalf("%s of %+v, s %d, act %d: %v, want nothing", name, a, s, act, got)
				}
			}
		}
	}
	if got := impl.Trimmed(a); !sameIa(got, impl.Ia{}) {
		t.Fatalf("Trimmed(%+v) = %+v, want nothing", a, got)
	}
}

func checkState(t *testing.T, a impl.Ia, s int) {
	t.Helper()
	taken, said, done := impl.Taken(a, s), impl.Said(a, s), impl.Done(a, s)
	if !slices.Equal(taken, wantedActs(a, s, a.Ins)) || !slices.Equal(said, wantedActs(a, s, a.Outs)) || !slices.Equal(done, wantedActs(a, s, a.Hids)) {
		t.Fatalf("of state %d of %+v: Taken %v, Said %v, Done %v", s, a, taken, said, done)
	}
	for _, act := range []int{math.MinInt, -1, 0, 1, 2, 3, 4, 5, 6, 7, 8, 9, 10, 11, 12, math.MaxInt} {
		if got, want := impl.After(a, s, act), wantedAfter(a, s, act); !slices.Equal(got, want) {
			t.Fatalf("After(%+v, %d, %d) = %v, want %v", a, s, act, got, want)
		}
	}
}

// checkTrimmed is promise 2 for one automaton.
func checkTrimmed(t *testing.T, a impl.Ia) {
	t.Helper()
	trimmed := impl.Trimmed(a)
	if !impl.IaOk(trimmed) || !wantedOk(trimmed) {
		t.Fatalf("Trimmed(%+v) = %+v is not IaOk", a, trimmed)
	}
	if reached := impl.Reached(trimmed); len(reached) != trimmed.States || !slices.Equal(reached, wantedReached(trimmed)) {
		t.Fatalf("of Trimmed(%+v) = %+v only %v are Reached", a, trimmed, reached)
	}
	if again := impl.Trimmed(trimmed); !sameIa(again, trimmed) {
		t.Fatalf("Trimmed(%+v) = %+v, trimmed again %+v", a, trimmed, again)
	}
	if want := wantedTrimmed(a); !sameIa(trimmed, want) {
		t.Fatalf("Trimmed(%+v) = %+v, want %+v", a, trimmed, want)
	}
}

// checkIa holds all answers of chapter 2 against the references.
func checkIa(t *testing.T, a impl.Ia) {
	t.Helper()
	if got := impl.IaOk(a); got != wantedOk(a) {
		t.Fatalf("IaOk(%+v) = %v", a, got)
	}
	if !wantedOk(a) {
		checkNothing(t, a)
		return
	}
	if got, want := impl.ActsOf(a), sorted(slices.Concat(a.Ins, a.Outs, a.Hids)); !slices.Equal(got, want) {
		t.Fatalf("ActsOf(%+v) = %v, want %v", a, got, want)
	}
	if got, want := impl.Reached(a), wantedReached(a); !slices.Equal(got, want) {
		t.Fatalf("Reached(%+v) = %v, want %v", a, got, want)
	}
	for _, s := range []int{math.MinInt, -40, -1, a.States, a.States + 1, 40, 41, math.MaxInt} {
		checkState(t, a, s)
	}
	for s := range a.States {
		checkState(t, a, s)
	}
	checkTrimmed(t, a)
}

// talker has an action of each kind, one that goes to several states of Outs and of Hids, and states 2, 4 that are not reached.
func talker() impl.Ia {
	return impl.Ia{
		States: 6, Init: 1, Ins: []int{0, 5}, Outs: []int{1, 11}, Hids: []int{2},
		Steps: []impl.Step{
			{From: 0, Act: 1, To: 0}, {From: 0, Act: 1, To: 3}, {From: 0, Act: 1, To: 5},
			{From: 1, Act: 0, To: 0}, {From: 1, Act: 1, To: 1}, {From: 1, Act: 2, To: 0}, {From: 1, Act: 2, To: 3}, {From: 1, Act: 11, To: 1},
			{From: 2, Act: 0, To: 4}, {From: 2, Act: 5, To: 0},
			{From: 3, Act: 5, To: 1},
			{From: 4, Act: 2, To: 2}, {From: 4, Act: 11, To: 5},
		},
	}
}

// row has n states, each of which leads to the next one.
func row(n int) impl.Ia {
	a := impl.Ia{States: n, Outs: []int{3}}
	for s := range n - 1 {
		a.Steps = append(a.Steps, impl.Step{From: s, Act: 3, To: s + 1})
	}
	return a
}

// crowded has 40 states and n steps, with actions of Outs alone.
func crowded(n int) impl.Ia {
	a := impl.Ia{States: 40, Outs: []int{6}}
	for i := range n {
		a.Steps = append(a.Steps, impl.Step{From: i / 40, Act: 6, To: i % 40})
	}
	return a
}

func changed(a impl.Ia, change func(a *impl.Ia)) impl.Ia {
	a = cloneIa(a)
	change(&a)
	return a
}

func TestAutomataLimits(t *testing.T) {
	if impl.MaxStates != 40 || impl.MaxSteps != 400 {
		t.Fatal(impl.MaxStates, impl.MaxSteps)
	}
}

// goodAutomata are all IaOk, with the limits among them.
func goodAutomata() map[string]impl.Ia {
	return map[string]impl.Ia{
		"talker":            talker(),
		"one state":         {States: 1},
		"one state, lists":  {States: 1, Ins: []int{}, Outs: []int{}, Hids: []int{}, Steps: []impl.Step{}},
		"40 states":         {States: 40},
		"last state":        {States: 40, Init: 39},
		"last of two":       {States: 2, Init: 1},
		"all actions in":    {States: 1, Ins: actionsOf(0xfff)},
		"all actions out":   {States: 1, Outs: actionsOf(0xfff)},
		"all actions hid":   {States: 1, Hids: actionsOf(0xfff)},
		"sets that mingle":  {States: 1, Ins: []int{1, 4, 11}, Outs: []int{0, 5}, Hids: []int{2, 3, 10}},
		"400 steps":         crowded(400),
		"40 in a row":       row(40),
		"40, from the last": changed(row(40), func(a *impl.Ia) { a.Init = 39 }),
		"a step to itself":  {States: 1, Ins: []int{0}, Steps: []impl.Step{{From: 0, Act: 0, To: 0}}},
		"last to last":      {States: 40, Ins: []int{11}, Steps: []impl.Step{{From: 39, Act: 11, To: 39}}},
		"one Out, two Tos":  {States: 2, Outs: []int{4}, Steps: []impl.Step{{From: 1, Act: 4, To: 0}, {From: 1, Act: 4, To: 1}}},
		"one Hid, two Tos":  {States: 2, Hids: []int{4}, Steps: []impl.Step{{From: 1, Act: 4, To: 0}, {From: 1, Act: 4, To: 1}}},
		"one In, two Froms": {States: 2, Ins: []int{4}, Steps: []impl.Step{{From: 0, Act: 4, To: 1}, {From: 1, Act: 4, To: 1}}},
		"one From, two Ins": {States: 2, Ins: []int{4, 5}, Steps: []impl.Step{{From: 0, Act: 4, To: 1}, {From: 0, Act: 5, To: 1}}},
		"To falls, Act rises, then Act falls, From rises": {
			States: 2, Ins: []int{7}, Hids: []int{3},
			Steps: []impl.Step{{From: 0, Act: 3, To: 1}, {From: 0, Act: 7, To: 0}, {From: 1, Act: 3, To: 0}},
		},
	}
}

// badSizes are not IaOk for their numbers of states and their Inits.
func badSizes() map[string]impl.Ia {
	all := map[string]impl.Ia{
		"zero value":             {},
		"no states":              {States: 0, Outs: []int{1}},
		"41 states":              {States: 41},
		"41 in a row":            row(41),
		"-1 states":              {States: -1},
		"-1 states, Init -2":     {States: -1, Init: -2},
		"least number of states": {States: math.MinInt},
		"most states":            {States: math.MaxInt, Init: math.MaxInt - 1},
		"64 states":              {States: 64},
		"256 and one states":     {States: 257},
	}
	for _, init := range []int{math.MinInt, -1, -6, 6, 7, 40, math.MaxInt, 1 << 32} {
		all[fmt.Sprint("Init ", init)] = changed(talker(), func(a *impl.Ia) { a.Init = init })
	}
	return all
}

func badSets() map[string]impl.Ia {
	all := map[string]impl.Ia{
		"Ins and Outs meet":            {States: 1, Ins: []int{1, 3}, Outs: []int{0, 3}},
		"Ins and Hids meet":            {States: 1, Ins: []int{1, 3}, Hids: []int{0, 3}},
		"Outs and Hids meet":           {States: 1, Outs: []int{1, 3}, Hids: []int{0, 3}},
		"all three meet":               {States: 1, Ins: []int{0}, Outs: []int{0}, Hids: []int{0}},
		"Ins and Outs meet at the end": {States: 1, Ins: []int{11}, Outs: []int{11}},
	}
	for _, set := range [][]int{{12}, {-1}, {1, 1}, {2, 1}, {0, 64}, {math.MinInt}, {math.MaxInt}, {math.MinInt, 3}, append(actionsOf(0xfff), 12)} {
		all[fmt.Sprint("Ins ", set)] = impl.Ia{States: 1, Ins: set}
		all[fmt.Sprint("Outs ", set)] = impl.Ia{States: 1, Outs: set}
		all[fmt.Sprint("Hids ", set)] = impl.Ia{States: 1, Hids: set}
	}
	return all
}

func badSteps() map[string]impl.Ia {
	base := impl.Ia{States: 3, Ins: []int{0, 5}, Outs: []int{1, 6}, Hids: []int{2, 7}}
	with := func(steps ...impl.Step) impl.Ia {
		a := cloneIa(base)
		a.Steps = steps
		return a
	}
	all := map[string]impl.Ia{
		"401 steps":              crowded(401),
		"1600 steps":             crowded(1600),
		"From falls":             with(impl.Step{From: 1, Act: 0, To: 0}, impl.Step{From: 0, Act: 1, To: 1}),
		"Act falls":              with(impl.Step{From: 1, Act: 1, To: 0}, impl.Step{From: 1, Act: 0, To: 1}),
		"To falls":               with(impl.Step{From: 1, Act: 1, To: 2}, impl.Step{From: 1, Act: 1, To: 0}),
		"the last one falls":     with(impl.Step{From: 0, Act: 1, To: 2}, impl.Step{From: 1, Act: 1, To: 0}, impl.Step{From: 0, Act: 6, To: 2}),
		"two alike, In":          with(impl.Step{From: 1, Act: 0, To: 2}, impl.Step{From: 1, Act: 0, To: 2}),
		"two alike, Out":         with(impl.Step{From: 1, Act: 1, To: 2}, impl.Step{From: 1, Act: 1, To: 2}),
		"two alike, Hid":         with(impl.Step{From: 1, Act: 2, To: 2}, impl.Step{From: 1, Act: 2, To: 2}),
		"one In, two Tos":        with(impl.Step{From: 1, Act: 5, To: 0}, impl.Step{From: 1, Act: 5, To: 1}),
		"one In, two Tos, first": with(impl.Step{From: 0, Act: 0, To: 1}, impl.Step{From: 0, Act: 0, To: 2}, impl.Step{From: 1, Act: 1, To: 0}),
		"one In, two Tos, last":  with(impl.Step{From: 0, Act: 1, To: 1}, impl.Step{From: 2, Act: 5, To: 0}, impl.Step{From: 2, Act: 5, To: 2}),
	}
	for _, s := range []int{math.MinInt, -1, 3, 40, 64, math.MaxInt} {
		all[fmt.Sprint("From ", s)] = with(impl.Step{From: s, Act: 1, To: 0})
		all[fmt.Sprint("To ", s)] = with(impl.Step{From: 0, Act: 1, To: s})
	}
	for _, act := range []int{math.MinInt, -1, 3, 11, 12, 64, 65, math.MaxInt} {
		all[fmt.Sprint("Act ", act)] = with(impl.Step{From: 0, Act: act, To: 0})
	}
	return all
}

func badAutomata() map[string]impl.Ia {
	all := badSizes()
	for _, more := range []map[string]impl.Ia{badSets(), badSteps()} {
		for name, a := range more {
			all[name] = a
		}
	}
	return all
}

func TestIaOkIsTrue(t *testing.T) {
	for name, a := range goodAutomata() {
		if !impl.IaOk(a) || !wantedOk(a) {
			t.Errorf("%s: IaOk is %v, by the reference %v", name, impl.IaOk(a), wantedOk(a))
		}
	}
}

func TestIaOkIsFalse(t *testing.T) {
	for name, a := range badAutomata() {
		if impl.IaOk(a) || wantedOk(a) {
			t.Errorf("%s: IaOk is %v, by the reference %v", name, impl.IaOk(a), wantedOk(a))
		}
	}
}

func TestNothingOfWrongAutomata(t *testing.T) {
	for name, a := range badAutomata() {
		t.Run(name, func(t *testing.T) { checkNothing(t, a) })
	}
}

// A fault anywhere is enough: what is asked for may lie all in the right part.
func TestNothingOfRightPartsOfWrongAutomata(t *testing.T) {
	faults := map[string]func(a *impl.Ia){
		"Init":      func(a *impl.Ia) { a.Init = 6 },
		"States":    func(a *impl.Ia) { a.States = 41 },
		"Ins":       func(a *impl.Ia) { a.Ins = append(a.Ins, 12) },
		"Outs":      func(a *impl.Ia) { a.Outs = append(a.Outs, 11) },
		"Hids":      func(a *impl.Ia) { a.Hids = append(a.Hids, 5) },
		"last step": func(a *impl.Ia) { a.Steps = append(a.Steps, impl.Step{From: 5, Act: 11, To: 6}) },
		"two Ins":   func(a *impl.Ia) { a.Steps = slices.Insert(a.Steps, 4, impl.Step{From: 1, Act: 0, To: 3}) },
		"no rise":   func(a *impl.Ia) { a.Steps[0], a.Steps[1] = a.Steps[1], a.Steps[0] },
		"too many":  func(a *impl.Ia) { a.Steps = append(a.Steps, crowded(401).Steps...) },
	}
	for name, fault := range faults {
		t.Run(name, func(t *testing.T) { checkNothing(t, changed(talker(), fault)) })
	}
}

func TestGoodAutomataByReference(t *testing.T) {
	for name, a := range goodAutomata() {
		t.Run(name, func(t *testing.T) { checkIa(t, a) })
	}
}

func TestActsOf(t *testing.T) {
	tests := []struct {
		a    impl.Ia
		want []int
	}{
		{talker(), []int{0, 1, 2, 5, 11}},
		{impl.Ia{States: 1}, nil},
		{impl.Ia{States: 1, Hids: []int{0}}, []int{0}},
		{impl.Ia{States: 1, Ins: []int{9, 10, 11}, Outs: []int{3, 4, 5}, Hids: []int{0, 1, 8}}, []int{0, 1, 3, 4, 5, 8, 9, 10, 11}},
		{impl.Ia{States: 1, Ins: actionsOf(0xf0f), Hids: actionsOf(0x0f0)}, actionsOf(0xfff)},
	}
	for _, x := range tests {
		if got := impl.ActsOf(x.a); !slices.Equal(got, x.want) {
			t.Errorf("ActsOf(%+v) = %v, want %v", x.a, got, x.want)
		}
	}
}

func TestStatesByHand(t *testing.T) {
	tests := []struct {
		s                 int
		taken, said, done []int
	}{
		{0, nil, []int{1}, nil},
		{1, []int{0}, []int{1, 11}, []int{2}},
		{2, []int{0, 5}, nil, nil},
		{3, []int{5}, nil, nil},
		{4, nil, []int{11}, []int{2}},
		{5, nil, nil, nil},
		{-1, nil, nil, nil},
		{6, nil, nil, nil},
		{7, nil, nil, nil},
		{39, nil, nil, nil},
		{40, nil, nil, nil},
		{math.MinInt, nil, nil, nil},
		{math.MaxInt, nil, nil, nil},
	}
	for _, x := range tests {
		taken, said, done := impl.Taken(talker(), x.s), impl.Said(talker(), x.s), impl.Done(talker(), x.s)
		if !slices.Equal(taken, x.taken) || !slices.Equal(said, x.said) || !slices.Equal(done, x.done) {
			t.Errorf("of state %d: Taken %v, Said %v, Done %v", x.s, taken, said, done)
		}
	}
}

func TestAfterByHand(t *testing.T) {
	tests := []struct {
		s, act int
		want   []int
	}{
		{0, 1, []int{0, 3, 5}},
		{1, 0, []int{0}},
		{1, 2, []int{0, 3}},
		{1, 11, []int{1}},
		{2, 0, []int{4}},
		{0, 0, nil},
		{0, 3, nil},
		{5, 1, nil},
		{1, -1, nil},
		{1, 12, nil},
		{1, math.MinInt, nil},
		{1, math.MaxInt, nil},
		{-1, 1, nil},
		{6, 1, nil},
		{40, 1, nil},
		{math.MinInt, 1, nil},
		{math.MaxInt, 1, nil},
		{math.MinInt, math.MaxInt, nil},
	}
	for _, x := range tests {
		if got := impl.After(talker(), x.s, x.act); !slices.Equal(got, x.want) {
			t.Errorf("After state %d, act %d: %v, want %v", x.s, x.act, got, x.want)
		}
	}
}

func TestSeveralTosAreToldOnce(t *testing.T) {
	a := crowded(400)
	if got := impl.Said(a, 9); !slices.Equal(got, []int{6}) {
		t.Error("Said", got)
	}
	if got := impl.After(a, 9, 6); len(got) != 40 || got[0] != 0 || got[39] != 39 {
		t.Error("After", got)
	}
	a.Outs, a.Hids = nil, a.Outs
	if got := impl.Done(a, 0); !slices.Equal(got, []int{6}) || len(impl.Said(a, 0)) != 0 {
		t.Error("Done", got)
	}
}

// hop is a step with the action 3, in tests where only states matter.
func hop(from int, to int) impl.Step { return impl.Step{From: from, Act: 3, To: to} }

func hops(states int, init int, steps ...impl.Step) impl.Ia {
	return impl.Ia{States: states, Init: init, Hids: []int{3}, Steps: steps}
}

func upTo(n int) []int {
	var list []int
	for i := range n {
		list = append(list, i)
	}
	return list
}

func TestReachedByHand(t *testing.T) {
	tests := []struct {
		name string
		a    impl.Ia
		want []int
	}{
		{"Init alone", hops(3, 0), []int{0}},
		{"Init alone, not 0", hops(3, 2), []int{2}},
		{"Init with a step to itself", hops(3, 1, hop(1, 1)), []int{1}},
		{"Init that is led to alone", hops(3, 2, hop(0, 1), hop(1, 2)), []int{2}},
		{"a round", hops(4, 1, hop(0, 1), hop(1, 2), hop(2, 0)), []int{0, 1, 2}},
		{"a round behind a step", hops(5, 4, hop(0, 2), hop(2, 3), hop(3, 0), hop(4, 3)), []int{0, 2, 3, 4}},
		{"led to from such alone", hops(5, 0, hop(0, 4), hop(1, 2), hop(2, 3), hop(3, 1), hop(3, 4)), []int{0, 4}},
		{"against the order", hops(4, 3, hop(1, 0), hop(2, 1), hop(3, 2)), []int{0, 1, 2, 3}},
		{"two ways", hops(4, 0, hop(0, 1), hop(0, 2), hop(1, 3), hop(2, 3)), []int{0, 1, 2, 3}},
		{"40 in a row", row(40), upTo(40)},
		{"40 in a row, from the middle", changed(row(40), func(a *impl.Ia) { a.Init = 37 }), []int{37, 38, 39}},
		{"talker", talker(), []int{0, 1, 3, 5}},
	}
	for _, x := range tests {
		if got := impl.Reached(x.a); !slices.Equal(got, x.want) {
			t.Errorf("%s: %v, want %v", x.name, got, x.want)
		}
		checkIa(t, x.a)
	}
}

func TestReachedAlongEachKind(t *testing.T) {
	a := impl.Ia{
		States: 4, Ins: []int{0}, Outs: []int{1}, Hids: []int{2},
		Steps: []impl.Step{{From: 0, Act: 2, To: 1}, {From: 1, Act: 0, To: 2}, {From: 2, Act: 1, To: 3}},
	}
	if got := impl.Reached(a); !slices.Equal(got, []int{0, 1, 2, 3}) {
		t.Fatal(got)
	}
}

func TestReachedBackwardRow(t *testing.T) {
	a := hops(40, 39)
	for s := range 39 {
		a.Steps = append(a.Steps, hop(s+1, s))
	}
	if got := impl.Reached(a); !slices.Equal(got, upTo(40)) {
		t.Fatal(got)
	}
	if got := impl.Trimmed(a); !sameIa(got, a) {
		t.Fatal(got)
	}
}

func TestTrimmedByHand(t *testing.T) {
	tests := []struct {
		name    string
		a, want impl.Ia
	}{
		{"nothing is left out", hops(3, 1, hop(0, 2), hop(1, 0)), hops(3, 1, hop(0, 2), hop(1, 0))},
		{"ahead of Init", hops(4, 2, hop(0, 1), hop(1, 2), hop(2, 3), hop(3, 2)), hops(2, 0, hop(0, 1), hop(1, 0))},
		{"between others", hops(5, 0, hop(0, 2), hop(1, 2), hop(2, 4), hop(3, 3)), hops(3, 0, hop(0, 1), hop(1, 2))},
		{"at the end", hops(4, 0, hop(0, 1), hop(2, 1), hop(2, 3), hop(3, 0)), hops(2, 0, hop(0, 1))},
		{"all but Init", hops(40, 39, hop(0, 1), hop(38, 39)), hops(1, 0)},
		{"all but Init, a step to itself", hops(40, 17, hop(16, 17), hop(17, 17), hop(18, 17)), hops(1, 0, hop(0, 0))},
		{"40 in a row", row(40), row(40)},
		{"the tail of a row", changed(row(40), func(a *impl.Ia) { a.Init = 30 }), row(10)},
		{"talker", talker(), impl.Ia{
			States: 4, Init: 1, Ins: []int{0, 5}, Outs: []int{1, 11}, Hids: []int{2},
			Steps: []impl.Step{
				{From: 0, Act: 1, To: 0}, {From: 0, Act: 1, To: 2}, {From: 0, Act: 1, To: 3},
				{From: 1, Act: 0, To: 0}, {From: 1, Act: 1, To: 1}, {From: 1, Act: 2, To: 0}, {From: 1, Act: 2, To: 2}, {From: 1, Act: 11, To: 1},
				{From: 2, Act: 5, To: 1},
			},
		}},
		{"sets stay, though no step has them", impl.Ia{States: 2, Ins: []int{1}, Outs: []int{2}, Hids: []int{3}, Steps: []impl.Step{hop(1, 0)}},
			impl.Ia{States: 1, Ins: []int{1}, Outs: []int{2}, Hids: []int{3}}},
	}
	for _, x := range tests {
		if got := impl.Trimmed(x.a); !sameIa(got, x.want) {
			t.Errorf("%s: %+v, want %+v", x.name, got, x.want)
		}
		checkTrimmed(t, x.a)
	}
}

// Promise 2, over all automata of two states and an action of each kind.
func TestAllSmallAutomata(t *testing.T) {
	var steps []impl.Step
	for i := range 12 {
		steps = append(steps, impl.Step{From: i / 6, Act: i / 2 % 3, To: i % 2})
	}
	for mask := range 1 << len(steps) {
		a := impl.Ia{States: 2, Ins: []int{0}, Outs: []int{1}, Hids: []int{2}}
		for i, x := range steps {
			if mask>>i&1 == 1 {
				a.Steps = append(a.Steps, x)
			}
		}
		a.Init = mask % 2
		checkIa(t, a)
		a.Init = 1 - a.Init
		if wantedOk(a) {
			checkTrimmed(t, a)
		}
	}
}

// Promise 2, over all graphs of four states, from each Init.
func TestAllGraphsOfFourStates(t *testing.T) {
	for mask := range 1 << 16 {
		a := hops(4, mask%4)
		for i := range 16 {
			if mask>>i&1 == 1 {
				a.Steps = append(a.Steps, hop(i/4, i%4))
			}
		}
		checkTrimmed(t, a)
	}
}

// righted has its steps in order, each once, and of one From and one Act of Ins but the first.
func righted(a impl.Ia) impl.Ia {
	slices.SortFunc(a.Steps, func(x, y impl.Step) int { return slices.Compare(numbersOf(x), numbersOf(y)) })
	a.Steps = slices.CompactFunc(a.Steps, func(x, y impl.Step) bool {
		return x == y || x.From == y.From && x.Act == y.Act && occurs(a.Ins, x.Act)
	})
	return a
}

// drawnIa is IaOk; few steps leave states that are not reached.
func drawnIa(d *draws, states int, count int) impl.Ia {
	a := impl.Ia{States: states, Init: d.below(states)}
	for x := range 12 {
		switch d.below(4) {
		case 0:
			a.Ins = append(a.Ins, x)
		case 1:
			a.Outs = append(a.Outs, x)
		case 2:
			a.Hids = append(a.Hids, x)
		}
	}
	acts := slices.Concat(a.Ins, a.Outs, a.Hids)
	for range count {
		if len(acts) > 0 {
			a.Steps = append(a.Steps, impl.Step{From: d.below(states), Act: acts[d.below(len(acts))], To: d.below(states)})
		}
	}
	return righted(a)
}

func TestDrawnAutomata(t *testing.T) {
	d := draws(2)
	for i := range 400 {
		states := 1 + d.below(40)
		a := drawnIa(&d, states, []int{states / 2, states, 2 * states, 400}[i%4])
		if !wantedOk(a) {
			t.Fatalf("drawn, but not IaOk: %+v", a)
		}
		checkIa(t, a)
	}
}

// spoil changes one number of an automaton, or one place of a list.
func spoil(d *draws, a *impl.Ia) {
	number := []int{math.MinInt, -1, 0, 1, 3, 11, 12, 39, 40, 41, math.MaxInt}[d.below(11)]
	sets := []*[]int{&a.Ins, &a.Outs, &a.Hids}
	set := sets[d.below(3)]
	switch kind := d.below(8); {
	case kind == 0:
		a.States = number
	case kind == 1:
		a.Init = number
	case kind == 2:
		*set = append(*set, number)
	case kind == 3 && len(*set) > 0:
		(*set)[d.below(len(*set))] = number
	case kind == 4 && len(*set) > 0:
		*set = (*set)[1:]
	case kind == 5 && len(a.Steps) > 0:
		x := &a.Steps[d.below(len(a.Steps))]
		*[]*int{&x.From, &x.Act, &x.To}[d.below(3)] = number
	case kind == 6 && len(a.Steps) > 0:
		place := d.below(len(a.Steps))
		a.Steps = slices.Insert(a.Steps, place, a.Steps[place])
	case kind == 7 && len(a.Steps) > 1:
		place := 1 + d.below(len(a.Steps)-1)
		a.Steps[place-1], a.Steps[place] = a.Steps[place], a.Steps[place-1]
	}
}

func TestSpoiltAutomata(t *testing.T) {
	d := draws(3)
	wrong := 0
	for range 3000 {
		states := 1 + d.below(6)
		a := drawnIa(&d, states, 1+d.below(12))
		spoil(&d, &a)
		if !wantedOk(a) {
			wrong++
		}
		checkIa(t, a)
	}
	if wrong < 500 || wrong > 2900 {
		t.Fatalf("%d of 3000 are wrong: too few of one kind to tell", wrong)
	}
}

// everyAnswer calls all functions of the chapter.
func everyAnswer(a impl.Ia, s int, act int) (map[string][]int, impl.Ia) {
	impl.IaOk(a)
	return iaAnswers(a, s, act), impl.Trimmed(a)
}

func automataForMemory() map[string]impl.Ia {
	all := goodAutomata()
	for name, a := range badAutomata() {
		all["wrong: "+name] = a
	}
	d := draws(4)
	for i := range 50 {
		all[fmt.Sprint("drawn ", i)] = drawnIa(&d, 1+d.below(10), 20)
	}
	return all
}

func TestAutomataAreLeftAsTheyAre(t *testing.T) {
	for name, was := range automataForMemory() {
		a := roomyIa(was)
		for s := range 3 {
			for act := range 3 {
				everyAnswer(a, s, act)
			}
		}
		checkIaUntouched(t, name, a, was)
	}
}

func TestAnswersShareNoMemoryWithAutomata(t *testing.T) {
	for name, was := range automataForMemory() {
		for s := range min(4, len(was.Steps)+1) {
			a := roomyIa(was)
			lists, trimmed := everyAnswer(a, s, 6)
			want := map[string][]int{}
			for function, list := range lists {
				want[function] = slices.Clone(list)
			}
			wantTrimmed := cloneIa(trimmed)
			scribbleIa(a)
			for function, list := range lists {
				if !slices.Equal(list, want[function]) {
					t.Fatalf("%s: the answer of %s shares memory with the argument", name, function)
				}
			}
			if !sameIa(trimmed, wantTrimmed) {
				t.Fatalf("%s: the answer of Trimmed shares memory with the argument", name)
			}
			a = roomyIa(was)
			lists, trimmed = everyAnswer(a, s, 6)
			for _, list := range lists {
				scribble(list)
			}
			scribbleIa(trimmed)
			checkIaUntouched(t, name+", answers written over", a, was)
		}
	}
}

func TestListsOfTrimmedShareNoMemory(t *testing.T) {
	for name, a := range automataForMemory() {
		want := cloneIa(impl.Trimmed(a))
		for i := range 4 {
			got := impl.Trimmed(a)
			left := cloneIa(want)
			switch i {
			case 0:
				scribble(got.Ins)
				got.Ins, left.Ins = nil, nil
			case 1:
				scribble(got.Outs)
				got.Outs, left.Outs = nil, nil
			case 2:
				scribble(got.Hids)
				got.Hids, left.Hids = nil, nil
			case 3:
				scribbleOf(got.Steps, sentinelStep)
				got.Steps, left.Steps = nil, nil
			}
			if !sameIa(got, left) {
				t.Fatalf("%s: two lists of Trimmed share memory: %+v, want %+v", name, got, left)
			}
		}
	}
}

// The lists of an argument may lie in one piece of memory, each in the room behind another.
func TestListsOfAnArgumentInOnePiece(t *testing.T) {
	was := []int{0, 5, 1, 11, 2}
	piece := slices.Clone(was)
	a := talker()
	a.Ins, a.Outs, a.Hids = piece[:2], piece[2:4], piece[4:]
	for s := range a.States {
		everyAnswer(a, s, 1)
	}
	checkIa(t, a)
	if !slices.Equal(piece, was) || !sameIa(a, talker()) {
		t.Fatal(piece)
	}
	trimmed := impl.Trimmed(impl.Ia{States: 1, Ins: piece[:0], Outs: piece[:1], Hids: piece[1:2]})
	scribbleIa(trimmed)
	if !slices.Equal(piece, was) {
		t.Fatal("the answer shares memory with the argument", piece)
	}
}

func TestSpareRoomOfAutomataIsNotRead(t *testing.T) {
	a := talker()
	a.Ins, a.Outs, a.Hids, a.Steps = a.Ins[:1], a.Outs[:1], a.Hids[:0], a.Steps[:4]
	want := impl.Ia{
		States: 4, Init: 1, Ins: []int{0}, Outs: []int{1},
		Steps: []impl.Step{{From: 0, Act: 1, To: 0}, {From: 0, Act: 1, To: 2}, {From: 0, Act: 1, To: 3}, {From: 1, Act: 0, To: 0}},
	}
	if got := impl.Trimmed(a); !sameIa(got, want) {
		t.Fatalf("%+v", got)
	}
	if acts, done := impl.ActsOf(a), impl.Done(a, 1); !slices.Equal(acts, []int{0, 1}) || len(done) != 0 {
		t.Fatal(acts, done)
	}
	checkIa(t, a)
}
