package tests

import (
	"fmt"
	"math"
	"slices"
	"testing"

	"loop.example/g00645/impl"
)

// watcher has the reference's answers of chapter 4 for each state, found once for all that is asked of an automaton.
type watcher struct {
	hiddenAnswers
	sure, said [][]int
	far        [][12][]int
}

func wantedWatcher(a impl.Ia) watcher {
	w := watcher{hiddenAnswers: wantedHidden(a)}
	if !w.ok {
		return w
	}
	for s := range a.States {
		w.sure, w.said = append(w.sure, w.sureTaken(s)), append(w.said, w.maySay(s))
		var far [12][]int
		for act := range 12 {
			far[act] = w.farAfter(s, act)
		}
		w.far = append(w.far, far)
	}
	return w
}

// are tells whether something is answered of these states at all.
func (w watcher) are(m []int) bool {
	for _, s := range m {
		if !w.has(s) {
			return false
		}
	}
	return len(m) > 0
}

func (w watcher) taken(m []int) []int {
	var acts []int
	for act := range 12 {
		missed := func(s int) bool { return !occurs(w.sure[s], act) }
		if w.are(m) && !slices.ContainsFunc(m, missed) {
			acts = append(acts, act)
		}
	}
	return acts
}

func (w watcher) saidOf(m []int) []int {
	var acts []int
	for act := range 12 {
		if w.are(m) && slices.ContainsFunc(m, func(s int) bool { return occurs(w.said[s], act) }) {
			acts = append(acts, act)
		}
	}
	return acts
}

func (w watcher) after(m []int, act int) []int {
	var tos []int
	for _, s := range m {
		tos = append(tos, w.far[s][act]...)
	}
	return w.closuresOf(tos)
}

// view has all that chapter 6 answers of one automaton.
type view struct {
	mixes   []impl.Mix
	isMixes bool
	env     impl.Ia
	isEnv   bool
}

// wantedView is the document's chapter 6 for one automaton, with no code of the program.
func (w watcher) wantedView() view {
	if !w.ok {
		return view{}
	}
	v := view{mixes: []impl.Mix{{S: w.closure(w.a.Init)}}, isMixes: true}
	v.env = impl.Ia{Ins: w.a.Outs, Outs: w.a.Ins}
	for place := 0; place < len(v.mixes); place++ {
		m := v.mixes[place].S
		for _, act := range sorted(slices.Concat(w.taken(m), w.saidOf(m))) {
			next := w.after(m, act)
			to := slices.IndexFunc(v.mixes, func(x impl.Mix) bool { return slices.Equal(x.S, next) })
			if to < 0 {
				to = len(v.mixes)
				v.mixes = append(v.mixes, impl.Mix{S: next})
			}
			v.env.Steps = append(v.env.Steps, impl.Step{From: place, Act: act, To: to})
		}
		if len(v.mixes) > 40 {
			return view{}
		}
	}
	v.env.States, v.isEnv = len(v.mixes), len(v.env.Steps) <= 400
	if !v.isEnv {
		v.env = impl.Ia{}
	}
	return v
}

func viewOf(a impl.Ia) view {
	var v view
	v.mixes, v.isMixes = impl.Mixes(a)
	v.env, v.isEnv = impl.EnvOf(a)
	return v
}

func sameMixes(x []impl.Mix, y []impl.Mix) bool {
	return slices.EqualFunc(x, y, func(m, n impl.Mix) bool { return slices.Equal(m.S, n.S) })
}

func (v view) same(x view) bool {
	return v.isMixes == x.isMixes && sameMixes(v.mixes, x.mixes) && v.isEnv == x.isEnv && sameIa(v.env, x.env)
}

func (v view) clone() view {
	v.mixes = slices.Clone(v.mixes)
	for i := range v.mixes {
		v.mixes[i].S = slices.Clone(v.mixes[i].S)
	}
	v.env = cloneIa(v.env)
	return v
}

func (v view) scribble() {
	for _, m := range v.mixes {
		scribble(m.S)
	}
	scribbleOf(v.mixes, impl.Mix{S: []int{overwritten}})
	scribbleIa(v.env)
}

// wantedLegal goes from pair to pair by the steps of both, without a product.
func wantedLegal(a impl.Ia, e impl.Ia) bool {
	if !wantedFit(a, e) || wantedCount(a, e) > 400 || !slices.Equal(e.Ins, a.Outs) || !slices.Equal(e.Outs, a.Ins) {
		return false
	}
	pairs := [][2]int{{a.Init, e.Init}}
	add := func(p int, q int) {
		if !slices.Contains(pairs, [2]int{p, q}) {
			pairs = append(pairs, [2]int{p, q})
		}
	}
	for i := 0; i < len(pairs); i++ {
		p, q := pairs[i][0], pairs[i][1]
		for act := range 12 {
			ofA, ofE := wantedAfter(a, p, act), wantedAfter(e, q, act)
			switch kindOf(a, act) + kindOf(e, act) {
			case "outin":
				if len(ofA) > 0 && len(ofE) == 0 {
					return false
				}
			case "inout":
				if len(ofE) > 0 && len(ofA) == 0 {
					return false
				}
			default: // at most one of both has the action, and the other one stays
				ofA, ofE = append(ofA, p), append(ofE, q)
			}
			for _, x := range ofA {
				for _, y := range ofE {
					add(x, y)
				}
			}
		}
	}
	return true
}

func stepWith(e impl.Ia, from int, act int) (int, bool) {
	for _, x := range e.Steps {
		if x.From == from && x.Act == act {
			return x.To, true
		}
	}
	return 0, false
}

// checkSaysNoMore is the second part of promise 6: it follows all traces that a and a Legal e may have, till all ends of traces are known.
func checkSaysNoMore(t *testing.T, a impl.Ia, e impl.Ia, env impl.Ia) {
	t.Helper()
	type end struct {
		ofA, ofE []int
		place    int
	}
	ends := []end{{impl.Closure(a, a.Init), impl.Closure(e, e.Init), env.Init}}
	for i := 0; i < len(ends); i++ {
		x := ends[i]
		for _, act := range sorted(slices.Concat(a.Ins, a.Outs)) {
			next := end{impl.Runs(a, x.ofA, []int{act}), impl.Runs(e, x.ofE, []int{act}), 0}
			to, may := stepWith(env, x.place, act)
			if saidByE := occurs(e.Outs, act) && len(next.ofE) > 0; saidByE && !may {
				t.Fatalf("of %+v: behind a trace the Legal %+v says %d, which %+v may not say in %d", a, e, act, env, x.place)
			}
			if len(next.ofA) == 0 || len(next.ofE) == 0 {
				continue
			}
			if !may {
				t.Fatalf("of %+v: behind a trace, it and the Legal %+v go on with %d, but %+v does not in %d", a, e, act, env, x.place)
			}
			next.place = to
			known := func(y end) bool {
				return slices.Equal(y.ofA, next.ofA) && slices.Equal(y.ofE, next.ofE) && y.place == next.place
			}
			if !slices.ContainsFunc(ends, known) {
				ends = append(ends, next)
			}
		}
	}
}

// checkLegal holds Legal against the reference, and a Legal e against promise 6.
func checkLegal(t *testing.T, a impl.Ia, e impl.Ia) bool {
	t.Helper()
	got := impl.Legal(a, e)
	if want := wantedLegal(a, e); got != want {
		t.Fatalf("Legal(%+v, %+v) = %v", a, e, got)
	}
	if env, ok := impl.EnvOf(a); got && ok {
		checkSaysNoMore(t, a, e, env)
	}
	return got
}

// withStep has one more step, in its place.
func withStep(e impl.Ia, x impl.Step) impl.Ia {
	e = cloneIa(e)
	e.Steps = append(e.Steps, x)
	slices.SortFunc(e.Steps, func(x, y impl.Step) int { return slices.Compare(numbersOf(x), numbersOf(y)) })
	return e
}

// checkSaysMost is the first part of promise 6, and that no more may be said anywhere, nor less taken.
func checkSaysMost(t *testing.T, a impl.Ia, env impl.Ia) {
	t.Helper()
	if _, ok := impl.Product(a, env); !ok {
		if impl.Legal(a, env) {
			t.Fatalf("of %+v: %+v is Legal, but there is no Product", a, env)
		}
		return
	}
	if !checkLegal(t, a, env) {
		t.Fatalf("of %+v: EnvOf %+v is not Legal", a, env)
	}
	for s := range env.States {
		for _, act := range a.Ins {
			more := withStep(env, impl.Step{From: s, Act: act, To: s})
			if _, may := stepWith(env, s, act); !may && impl.Legal(a, more) {
				t.Fatalf("of %+v: EnvOf %+v might say %d in %d, too", a, env, act, s)
			}
		}
	}
	for i, x := range env.Steps {
		less := cloneIa(env)
		less.Steps = slices.Delete(less.Steps, i, i+1)
		if got := impl.Legal(a, less); got != occurs(a.Ins, x.Act) {
			t.Fatalf("of %+v: EnvOf %+v without %+v: Legal %v", a, env, x, got)
		}
	}
}

// listsToAsk are of all kinds: empty, of states that rise, fall, are there twice, or are none.
func listsToAsk(a impl.Ia) [][]int {
	last := a.States - 1
	return [][]int{
		nil, {}, {0}, {a.Init}, {last}, {last, 0}, {0, last}, {0, 0}, {a.Init, 0, a.Init, last}, {a.States}, {-1}, {0, -1}, {-1, 0}, {a.States, 0}, {0, a.States},
		{0, 40}, {64}, {0, 64}, {math.MinInt}, {0, math.MaxInt},
	}
}

func (w watcher) checkMix(t *testing.T, m []int) {
	t.Helper()
	if got, want := impl.MixTaken(w.a, m), w.taken(m); !slices.Equal(got, want) {
		t.Fatalf("MixTaken(%+v, %v) = %v, want %v", w.a, m, got, want)
	}
	if got, want := impl.MixSaid(w.a, m), w.saidOf(m); !slices.Equal(got, want) {
		t.Fatalf("MixSaid(%+v, %v) = %v, want %v", w.a, m, got, want)
	}
}

// checkView holds all answers of chapter 6 of one automaton against the reference and against promise 6.
func checkView(t *testing.T, a impl.Ia) view {
	t.Helper()
	w := wantedWatcher(a)
	got, want := viewOf(a), w.wantedView()
	if !got.same(want) {
		t.Fatalf("of %+v: got %+v, want %+v", a, got, want)
	}
	for _, m := range listsToAsk(a) {
		w.checkMix(t, m)
	}
	for _, m := range got.mixes {
		w.checkMix(t, m.S)
	}
	if w.ok {
		w.checkMix(t, upTo(a.States))
	}
	if got.isEnv {
		if !impl.IaOk(got.env) || len(impl.Reached(got.env)) != got.env.States {
			t.Fatalf("of %+v: EnvOf %+v is not right, or not all reached", a, got.env)
		}
		checkSaysMost(t, a, got.env)
	}
	return got
}

func mixesOf(lists ...[]int) []impl.Mix {
	var mixes []impl.Mix
	for _, list := range lists {
		mixes = append(mixes, impl.Mix{S: list})
	}
	return mixes
}

func TestMixTakenAndSaidByHand(t *testing.T) {
	tests := []struct {
		name        string
		m           []int
		taken, said []int
	}{
		{"no state", nil, nil, nil},
		{"no state, an empty list", []int{}, nil, nil},
		{"one", []int{0}, []int{0}, []int{1, 11}},
		{"one, in which nothing is sure", []int{3}, nil, []int{1}},
		{"one, in which nothing is taken nor said", []int{4}, nil, nil},
		{"one, the last", []int{5}, []int{5}, nil},
		{"several, which take the same", []int{0, 1, 2}, []int{0}, []int{1, 11}},
		{"several, of which one takes nothing surely", []int{0, 3}, nil, []int{1, 11}},
		{"several, which take other ones", []int{2, 5}, nil, []int{1, 11}},
		{"several, of which one says", []int{3, 4, 5}, nil, []int{1}},
		{"several, which say nothing", []int{4, 5}, nil, nil},
		{"all", []int{0, 1, 2, 3, 4, 5}, nil, []int{1, 11}},
		{"all, falling", []int{5, 4, 3, 2, 1, 0}, nil, []int{1, 11}},
		{"falling", []int{1, 0}, []int{0}, []int{1, 11}},
		{"falling, the last says", []int{5, 3}, nil, []int{1}},
		{"a state twice", []int{5, 5}, []int{5}, nil},
		{"a state twice, with another one in between", []int{0, 2, 0}, []int{0}, []int{1, 11}},
		{"no state, -1", []int{-1}, nil, nil},
		{"no state, States", []int{6}, nil, nil},
		{"one is none, the first", []int{-1, 0}, nil, nil},
		{"one is none, the last", []int{0, 6}, nil, nil},
		{"one is none, in between", []int{0, 40, 1}, nil, nil},
		{"one is none, least", []int{0, math.MinInt}, nil, nil},
		{"one is none, most", []int{math.MaxInt, 0}, nil, nil},
		{"one is none, 64 past a state", []int{64, 0}, nil, nil},
	}
	w := wantedWatcher(whisperer())
	for _, x := range tests {
		taken, said := impl.MixTaken(whisperer(), x.m), impl.MixSaid(whisperer(), x.m)
		if !slices.Equal(taken, x.taken) || !slices.Equal(said, x.said) {
			t.Errorf("%s: MixTaken %v, MixSaid %v, want %v, %v", x.name, taken, said, x.taken, x.said)
		}
		w.checkMix(t, x.m)
	}
	long := slices.Repeat([]int{2, 0}, 100000)
	if taken, said := impl.MixTaken(whisperer(), long), impl.MixSaid(whisperer(), long); !slices.Equal(taken, []int{0}) || !slices.Equal(said, []int{1, 11}) {
		t.Error(taken, said)
	}
	if taken, said := impl.MixTaken(whisperer(), append(long, 6)), impl.MixSaid(whisperer(), append(long, 6)); len(taken)+len(said) != 0 {
		t.Error(taken, said)
	}
}

// A mix need not be closed: what a hidden step leads to counts.
func TestMixWhereAHiddenStepLeadsOut(t *testing.T) {
	a := pair([2][]int{{0, 1}, {1, 2}}, [2][]int{{3}, {4, 5}})
	tests := []struct{ m, taken, said []int }{
		{[]int{0}, []int{1}, []int{3, 4, 5}},
		{[]int{1}, []int{1, 2}, []int{4, 5}},
		{[]int{0, 1}, []int{1}, []int{3, 4, 5}},
		{[]int{1, 0}, []int{1}, []int{3, 4, 5}},
	}
	for _, x := range tests {
		if taken, said := impl.MixTaken(a, x.m), impl.MixSaid(a, x.m); !slices.Equal(taken, x.taken) || !slices.Equal(said, x.said) {
			t.Errorf("of %v: MixTaken %v, MixSaid %v", x.m, taken, said)
		}
	}
	checkView(t, a)
}

// All lists of up to three numbers, of an automaton of three states in which each takes and says otherwise.
func TestMixOfAllShortLists(t *testing.T) {
	a := withSteps(impl.Ia{States: 3, Ins: []int{0, 1, 2}, Outs: []int{3, 4}, Hids: []int{5}},
		[3]int{0, 0, 0}, [3]int{0, 1, 0}, [3]int{0, 2, 2}, [3]int{0, 3, 0}, [3]int{0, 5, 1},
		[3]int{1, 1, 0}, [3]int{1, 2, 2},
		[3]int{2, 0, 1}, [3]int{2, 2, 2}, [3]int{2, 4, 0}, [3]int{2, 4, 1})
	w := wantedWatcher(a)
	for _, m := range listsOf([]int{0, 1, 2, 3, -1}, 3) {
		w.checkMix(t, m)
	}
	checkView(t, a)
}

func TestViewByHand(t *testing.T) {
	tests := []struct {
		name  string
		a     impl.Ia
		mixes []impl.Mix
		env   impl.Ia
	}{
		{"one state, no action", impl.Ia{States: 1}, mixesOf([]int{0}), impl.Ia{States: 1}},
		{"three states, no action", impl.Ia{States: 3, Init: 2}, mixesOf([]int{2}), impl.Ia{States: 1}},
		{"actions, no step", impl.Ia{States: 2, Init: 1, Ins: []int{0, 3}, Outs: []int{1}, Hids: []int{7}}, mixesOf([]int{1}),
			impl.Ia{States: 1, Ins: []int{1}, Outs: []int{0, 3}}},
		{"actions that are done elsewhere alone", withSteps(impl.Ia{States: 3, Ins: []int{0}, Outs: []int{1}}, [3]int{1, 0, 2}, [3]int{2, 1, 0}), mixesOf([]int{0}),
			impl.Ia{States: 1, Ins: []int{1}, Outs: []int{0}}},
		{"no Ins", row(3), mixesOf([]int{0}, []int{1}, []int{2}),
			withSteps(impl.Ia{States: 3, Ins: []int{3}}, [3]int{0, 3, 1}, [3]int{1, 3, 2})},
		{"no Outs", withSteps(impl.Ia{States: 2, Init: 1, Ins: []int{2, 9}}, [3]int{0, 9, 1}, [3]int{1, 2, 0}, [3]int{1, 9, 1}), mixesOf([]int{1}, []int{0}),
			withSteps(impl.Ia{States: 2, Outs: []int{2, 9}}, [3]int{0, 2, 1}, [3]int{0, 9, 0}, [3]int{1, 9, 0})},
		{"Hids alone", hops(4, 1, hop(1, 2), hop(2, 0)), mixesOf([]int{0, 1, 2}), impl.Ia{States: 1}},
		{"hidden steps in a circle, from Init", withSteps(impl.Ia{States: 4, Init: 1, Ins: []int{0}, Outs: []int{5}, Hids: []int{3}}, [3]int{0, 0, 3}, [3]int{0, 3, 1}, [3]int{1, 0, 3}, [3]int{1, 3, 2}, [3]int{2, 0, 2}, [3]int{2, 3, 0}, [3]int{3, 5, 0}),
			mixesOf([]int{0, 1, 2}, []int{0, 1, 2, 3}),
			withSteps(impl.Ia{States: 2, Ins: []int{5}, Outs: []int{0}}, [3]int{0, 0, 1}, [3]int{1, 5, 0})},
		{"a hidden step behind another one", withSteps(impl.Ia{States: 3, Outs: []int{0}, Hids: []int{1}}, [3]int{0, 0, 2}, [3]int{2, 1, 1}), mixesOf([]int{0}, []int{1, 2}),
			withSteps(impl.Ia{States: 2, Ins: []int{0}}, [3]int{0, 0, 1})},
		{"what a hidden step leads to does not take it", withSteps(impl.Ia{States: 2, Ins: []int{0}, Outs: []int{1}, Hids: []int{2}}, [3]int{0, 0, 0}, [3]int{0, 2, 1}, [3]int{1, 1, 0}), mixesOf([]int{0, 1}),
			withSteps(impl.Ia{States: 1, Ins: []int{1}, Outs: []int{0}}, [3]int{0, 1, 0})},
		{"two actions that make the same mix", withSteps(impl.Ia{States: 2, Ins: []int{4}, Outs: []int{1, 8}}, [3]int{0, 1, 1}, [3]int{0, 4, 1}, [3]int{0, 8, 1}), mixesOf([]int{0}, []int{1}),
			withSteps(impl.Ia{States: 2, Ins: []int{1, 8}, Outs: []int{4}}, [3]int{0, 1, 1}, [3]int{0, 4, 1}, [3]int{0, 8, 1})},
		{"a mix that makes itself", withSteps(impl.Ia{States: 2, Ins: []int{0}, Outs: []int{1}}, [3]int{0, 0, 0}, [3]int{0, 1, 0}), mixesOf([]int{0}),
			withSteps(impl.Ia{States: 1, Ins: []int{1}, Outs: []int{0}}, [3]int{0, 0, 0}, [3]int{0, 1, 0})},
		{"an Out with two Tos", withSteps(impl.Ia{States: 3, Ins: []int{2}, Outs: []int{0}}, [3]int{0, 0, 1}, [3]int{0, 0, 2}, [3]int{1, 2, 0}, [3]int{2, 2, 2}), mixesOf([]int{0}, []int{1, 2}, []int{0, 2}),
			withSteps(impl.Ia{States: 3, Ins: []int{0}, Outs: []int{2}}, [3]int{0, 0, 1}, [3]int{1, 2, 2}, [3]int{2, 0, 1})},
		{"an Out with two Tos, of which one takes no more", withSteps(impl.Ia{States: 3, Ins: []int{2}, Outs: []int{0}}, [3]int{0, 0, 1}, [3]int{0, 0, 2}, [3]int{1, 2, 0}), mixesOf([]int{0}, []int{1, 2}),
			withSteps(impl.Ia{States: 2, Ins: []int{0}, Outs: []int{2}}, [3]int{0, 0, 1})},
		{"the actions rise, whoever does them", withSteps(impl.Ia{States: 5, Ins: []int{1, 3}, Outs: []int{0, 2}}, [3]int{0, 0, 4}, [3]int{0, 1, 3}, [3]int{0, 2, 2}, [3]int{0, 3, 1}), mixesOf([]int{0}, []int{4}, []int{3}, []int{2}, []int{1}),
			withSteps(impl.Ia{States: 5, Ins: []int{0, 2}, Outs: []int{1, 3}}, [3]int{0, 0, 1}, [3]int{0, 1, 2}, [3]int{0, 2, 3}, [3]int{0, 3, 4})},
		{"mix by mix, not to the depth", withSteps(impl.Ia{States: 5, Outs: []int{0, 1}}, [3]int{0, 0, 1}, [3]int{0, 1, 2}, [3]int{1, 0, 3}, [3]int{2, 0, 4}), mixesOf([]int{0}, []int{1}, []int{2}, []int{3}, []int{4}),
			withSteps(impl.Ia{States: 5, Ins: []int{0, 1}}, [3]int{0, 0, 1}, [3]int{0, 1, 2}, [3]int{1, 0, 3}, [3]int{2, 0, 4})},
		{"whisperer", whisperer(), mixesOf([]int{3}, []int{3, 4, 5}),
			withSteps(impl.Ia{States: 2, Ins: []int{1, 11}, Outs: []int{0, 5}}, [3]int{0, 1, 1}, [3]int{1, 1, 1})},
	}
	for _, x := range tests {
		got := checkView(t, x.a)
		if want := (view{x.mixes, true, x.env, true}); !got.same(want) {
			t.Errorf("%s: got %+v, want %+v", x.name, got, want)
		}
	}
}

// forked has n single states in a row as mixes and, found last, a mix of the last two.
func forked(n int) impl.Ia {
	return withSteps(row(n), [3]int{n - 1, 3, n - 2}, [3]int{n - 1, 3, n - 1})
}

// counter may be in any of n states besides 0, so that it has 2 to the power of n mixes.
func counter(n int) impl.Ia {
	a := withSteps(impl.Ia{States: n + 1, Outs: []int{0, 1}}, [3]int{0, 0, 0}, [3]int{0, 1, 0}, [3]int{0, 1, 1})
	for s := 1; s < n; s++ {
		a = withSteps(a, [3]int{s, 0, s + 1}, [3]int{s, 1, s + 1})
	}
	return a
}

func TestMixesAtTheLimit(t *testing.T) {
	early := func(n int) impl.Ia {
		a := withStep(row(n), impl.Step{From: 0, Act: 4, To: n - 2})
		a.Outs = []int{3, 4}
		return withStep(a, impl.Step{From: 0, Act: 4, To: n - 1})
	}
	tests := []struct {
		name string
		a    impl.Ia
		want int
	}{
		{"40 in a row", row(40), 40},
		{"40 in a row that goes round", withSteps(row(40), [3]int{39, 3, 0}), 40},
		{"39 and a fork", forked(39), 40},
		{"40 and a fork", forked(40), 0},
		{"39 and an early fork", early(39), 40},
		{"40 and an early fork", early(40), 0},
		{"a counter of 5", counter(5), 32},
		{"a counter of 6", counter(6), 0},
		{"a counter of 39", counter(39), 0},
		{"400 steps", crowded(400), 2},
	}
	for _, x := range tests {
		got := checkView(t, x.a)
		if got.isMixes != (x.want > 0) || len(got.mixes) != x.want || got.isEnv != (x.want > 0) || got.env.States != x.want {
			t.Errorf("%s: %d mixes, %v; EnvOf with %d states, %v", x.name, len(got.mixes), got.isMixes, got.env.States, got.isEnv)
		}
	}
	// Only those count that may be come to from Init.
	a := counter(6)
	a.Init = 6
	if got := checkView(t, a); len(got.mixes) != 1 || got.env.States != 1 {
		t.Errorf("%+v", got)
	}
}

// loud has 40 mixes, in each of which it may say all of n actions; a hidden step leads from each state to the last one.
func loud(n int) impl.Ia {
	a := impl.Ia{States: 40, Outs: upTo(n), Hids: []int{11}}
	for s := range 39 {
		if s < 38 {
			a = withSteps(a, [3]int{s, 0, s + 1})
		}
		a = withSteps(a, [3]int{s, 11, 39})
	}
	for act := range n {
		a = withSteps(a, [3]int{39, act, 39})
	}
	return a
}

// patient counts as counter does, and takes ten actions in each of these 32 mixes, and some in two states ahead.
func patient(ahead int) impl.Ia {
	a := counter(5)
	a.States, a.Init, a.Ins = 8, 6, upTo(12)[2:]
	for s := range 6 {
		for act := 2; act < 12; act++ {
			a = withStep(a, impl.Step{From: s, Act: act, To: s})
		}
	}
	for i := range ahead {
		a = withStep(a, impl.Step{From: 6 + i/10, Act: 2 + i%10, To: 6 + i/10})
	}
	return withStep(withStep(a, impl.Step{From: 6, Act: 1, To: 7}), impl.Step{From: 7, Act: 1, To: 0})
}

func TestEnvStepsAtTheLimit(t *testing.T) {
	listener := func(count int) impl.Ia {
		a := impl.Ia{States: 40, Ins: upTo(11)}
		for i := range count {
			a = withStep(a, impl.Step{From: i % 40, Act: i / 40, To: (i + 1) % 40})
		}
		return a
	}
	tests := []struct {
		name         string
		a            impl.Ia
		mixes, steps int
	}{
		{"400 that are taken", listener(400), 40, 400},
		{"399 that are taken", listener(399), 40, 399},
		{"360 that may be said", loud(9), 40, 360},
		{"400 that may be said", loud(10), 40, 400},
		{"401, the last in the middle", changed(withStep(loud(10), impl.Step{From: 17, Act: 10, To: 39}), func(a *impl.Ia) { a.Outs = upTo(11) }), 40, 401},
		{"440 that may be said", loud(11), 40, 440},
		{"399 of both kinds", patient(13), 34, 399},
		{"400 of both kinds", patient(14), 34, 400},
		{"401 of both kinds", patient(15), 34, 401},
		{"406 of both kinds", patient(20), 34, 406},
	}
	for _, x := range tests {
		got := checkView(t, x.a)
		if !got.isMixes || len(got.mixes) != x.mixes || got.isEnv != (x.steps <= 400) {
			t.Errorf("%s: %d mixes, %v; EnvOf %v", x.name, len(got.mixes), got.isMixes, got.isEnv)
		}
		if got.isEnv && len(got.env.Steps) != x.steps || !got.isEnv && !sameIa(got.env, impl.Ia{}) {
			t.Errorf("%s: EnvOf with %d states and %d steps", x.name, got.env.States, len(got.env.Steps))
		}
	}
}

// wrongAutomata has those that are not IaOk, whisperers with one fault among them.
func wrongAutomata() map[string]impl.Ia {
	all := badAutomata()
	for name, change := range map[string]func(a *impl.Ia){
		"41 states":         func(a *impl.Ia) { a.States = 41 },
		"Init is none":      func(a *impl.Ia) { a.Init = 6 },
		"an action in two":  func(a *impl.Ia) { a.Outs = []int{1, 7, 11} },
		"a To that is none": func(a *impl.Ia) { a.Steps[0].To = 6 },
		"steps fall":        func(a *impl.Ia) { a.Steps[0], a.Steps[1] = a.Steps[1], a.Steps[0] },
		"a step of no set":  func(a *impl.Ia) { a.Ins = a.Ins[:1] },
	} {
		all["whisperer: "+name] = changed(whisperer(), change)
	}
	return all
}

func TestNoViewOfWrongAutomata(t *testing.T) {
	for name, a := range wrongAutomata() {
		if wantedOk(a) {
			t.Fatalf("%s: %+v is IaOk", name, a)
		}
		if got := viewOf(a); !got.same(view{}) {
			t.Errorf("%s: %+v", name, got)
		}
		for _, m := range append(listsToAsk(a), []int{0, 1, 2}, []int{39}) {
			if taken, said := impl.MixTaken(a, m), impl.MixSaid(a, m); len(taken)+len(said) != 0 {
				t.Errorf("%s, %v: MixTaken %v, MixSaid %v", name, m, taken, said)
			}
		}
		mirror := impl.Ia{States: 1, Ins: a.Outs, Outs: a.Ins}
		if impl.Legal(a, impl.Ia{States: 1}) || impl.Legal(impl.Ia{States: 1}, a) || impl.Legal(a, mirror) || impl.Legal(mirror, a) || impl.Legal(a, a) {
			t.Errorf("%s: Legal", name)
		}
	}
}

// speaker takes 0 in state 0 and, not surely, in 1; it says 1 from there on, and 2 never.
func speaker() impl.Ia {
	return withSteps(impl.Ia{States: 3, Ins: []int{0}, Outs: []int{1, 2}, Hids: []int{3}}, [3]int{0, 0, 1}, [3]int{1, 0, 0}, [3]int{1, 1, 0}, [3]int{1, 3, 2}, [3]int{2, 1, 0})
}

func TestLegalByHand(t *testing.T) {
	sets := impl.Ia{Ins: []int{1, 2}, Outs: []int{0}}
	with := func(states int, init int, steps ...[3]int) impl.Ia {
		e := withSteps(sets, steps...)
		e.States, e.Init = states, init
		return e
	}
	hidden := func(e impl.Ia, hids ...int) impl.Ia {
		e.Hids = hids
		return e
	}
	tests := []struct {
		name string
		e    impl.Ia
		want bool
	}{
		{"the one that says most", with(2, 0, [3]int{0, 0, 1}, [3]int{1, 1, 0}), true},
		{"one that says nothing", with(1, 0), true},
		{"one that says nothing and takes all", with(1, 0, [3]int{0, 1, 0}, [3]int{0, 2, 0}), true},
		{"one that says once", with(3, 0, [3]int{0, 0, 1}, [3]int{1, 1, 2}), true},
		{"one that takes more than is said", with(2, 0, [3]int{0, 0, 1}, [3]int{0, 1, 1}, [3]int{0, 2, 0}, [3]int{1, 1, 0}, [3]int{1, 2, 0}), true},
		{"one that says what is taken, but not surely", with(3, 0, [3]int{0, 0, 1}, [3]int{1, 0, 2}, [3]int{1, 1, 0}), false},
		{"one that does not take what may be said", with(2, 0, [3]int{0, 0, 1}), false},
		{"one that does not take it the second time", with(4, 0, [3]int{0, 0, 1}, [3]int{1, 1, 2}, [3]int{2, 0, 3}), false},
		{"one that may not take it", with(3, 0, [3]int{0, 0, 1}, [3]int{0, 0, 2}, [3]int{1, 1, 0}), false},
		{"a clash that cannot be come to", with(4, 0, [3]int{0, 0, 1}, [3]int{1, 1, 0}, [3]int{2, 0, 3}, [3]int{3, 0, 3}), true},
		{"such a clash is the beginning of another one", with(4, 3, [3]int{0, 0, 1}, [3]int{1, 1, 0}, [3]int{2, 0, 3}, [3]int{3, 0, 3}), false},
		{"with a hidden step", hidden(with(2, 0, [3]int{0, 0, 1}, [3]int{1, 1, 0}, [3]int{1, 4, 1}), 4), true},
		{"with a hidden step to where it does not take", hidden(with(3, 0, [3]int{0, 0, 1}, [3]int{1, 1, 0}, [3]int{1, 4, 2}), 4), false},
		{"with a hidden step to where it says too much", hidden(with(3, 0, [3]int{0, 0, 1}, [3]int{1, 1, 0}, [3]int{1, 11, 2}, [3]int{2, 0, 2}, [3]int{2, 1, 0}), 11), false},
		{"with hidden actions that it never does", hidden(with(2, 0, [3]int{0, 0, 1}, [3]int{1, 1, 0}), 4, 5, 11), true},
		{"with the other's hidden action", hidden(with(2, 0, [3]int{0, 0, 1}, [3]int{1, 1, 0}), 3), false},
	}
	for _, x := range tests {
		if got := impl.Legal(speaker(), x.e); got != x.want {
			t.Errorf("%s: Legal %v", x.name, got)
		}
		checkLegal(t, speaker(), x.e)
	}
	checkView(t, speaker())
}

// These clash nowhere that may be come to; what is asked for is that the sets are the other's.
func TestLegalAsksForTheSets(t *testing.T) {
	a := withSteps(impl.Ia{States: 2, Ins: []int{0, 5}, Outs: []int{1, 6}, Hids: []int{2}}, [3]int{0, 0, 1}, [3]int{1, 1, 0}, [3]int{1, 2, 1})
	right := withSteps(impl.Ia{States: 2, Ins: []int{1, 6}, Outs: []int{0, 5}}, [3]int{0, 0, 1}, [3]int{1, 1, 0})
	tests := map[string]func(e *impl.Ia){
		"one more of Ins":         func(e *impl.Ia) { e.Ins = []int{1, 6, 9} },
		"one more of Outs":        func(e *impl.Ia) { e.Outs = []int{0, 5, 9} },
		"one less of Ins":         func(e *impl.Ia) { e.Ins = []int{1} },
		"one less of Outs":        func(e *impl.Ia) { e.Outs = []int{0} },
		"another one of Ins":      func(e *impl.Ia) { e.Ins = []int{1, 7} },
		"another one of Outs":     func(e *impl.Ia) { e.Outs = []int{0, 4} },
		"one of Ins is hidden":    func(e *impl.Ia) { e.Ins, e.Hids = []int{1}, []int{6} },
		"one of Ins is of Outs":   func(e *impl.Ia) { e.Ins, e.Outs = []int{1}, []int{0, 5, 6} },
		"one of Outs is of Ins":   func(e *impl.Ia) { e.Ins, e.Outs = []int{1, 5, 6}, []int{0} },
		"no Ins, no Outs":         func(e *impl.Ia) { e.Ins, e.Outs, e.Steps = nil, nil, nil },
		"the sets of a":           func(e *impl.Ia) { e.Ins, e.Outs = []int{0, 5}, []int{1, 6} },
		"one of a's Hids is here": func(e *impl.Ia) { e.Ins = []int{1, 2, 6} },
	}
	if !impl.Legal(a, right) {
		t.Fatal("not legal")
	}
	checkView(t, a)
	for name, change := range tests {
		e := changed(right, change)
		if !wantedOk(e) || impl.Legal(a, e) {
			t.Errorf("%s: IaOk %v, Legal %v", name, wantedOk(e), impl.Legal(a, e))
		}
		checkLegal(t, a, e)
	}
	for _, x := range [][2]impl.Ia{{{States: 1}, {States: 1, Ins: []int{0}}}, {{States: 1}, {States: 1, Outs: []int{0}}}, {{States: 1, Ins: []int{0}}, {States: 1}}, {{States: 1, Outs: []int{0}}, {States: 1}}} {
		if impl.Legal(x[0], x[1]) {
			t.Errorf("Legal(%+v, %+v)", x[0], x[1])
		}
	}
	if !impl.Legal(impl.Ia{States: 1}, impl.Ia{States: 1}) || !impl.Legal(impl.Ia{States: 1}, impl.Ia{States: 1, Ins: []int{}, Outs: []int{}}) {
		t.Error("no actions at all: not legal")
	}
}

// A product has Ins only where the sets are not the other's, so that none of these is legal, whether they clash or not.
func TestLegalWhereTheProductHasInputs(t *testing.T) {
	a := withSteps(impl.Ia{States: 2, Ins: []int{5}, Outs: []int{1}}, [3]int{0, 5, 1}, [3]int{1, 1, 0})
	takes := withSteps(impl.Ia{States: 1, Ins: []int{1}}, [3]int{0, 1, 0})
	turns := withSteps(impl.Ia{States: 3, Ins: []int{1, 9}, Outs: []int{5}}, [3]int{0, 5, 1}, [3]int{1, 1, 0}, [3]int{1, 9, 2})
	for name, e := range map[string]impl.Ia{
		"no clash": takes, "a clash behind an input of a": {States: 1, Ins: []int{1}}, "a clash behind an input of e": turns,
	} {
		product, ok := impl.Product(a, e)
		if !ok || len(product.Ins) != 1 || occurs(impl.Bad(a, e), product.Init) {
			t.Fatalf("%s: Product %+v, %v, Bad %v", name, product, ok, impl.Bad(a, e))
		}
		if clash := len(impl.SetMeet(impl.Clashes(a, e), impl.Reached(product))) > 0; clash != (name != "no clash") {
			t.Fatalf("%s: Clashes %v, Reached %v", name, impl.Clashes(a, e), impl.Reached(product))
		}
		if checkLegal(t, a, e) {
			t.Errorf("%s: Legal", name)
		}
	}
}

func TestLegalAtTheLimits(t *testing.T) {
	ring := func(states int, count int) impl.Ia {
		a := impl.Ia{States: states, Hids: []int{1}}
		for i := range count {
			a.Steps = append(a.Steps, impl.Step{From: i / states, Act: 1, To: i % states})
		}
		return a
	}
	tests := []struct {
		name string
		a, e impl.Ia
		want bool
	}{
		{"40 states", impl.Ia{States: 8}, impl.Ia{States: 5}, true},
		{"42 states", impl.Ia{States: 7}, impl.Ia{States: 6}, false},
		{"40 states and one", impl.Ia{States: 40}, impl.Ia{States: 1}, true},
		{"41 states and one", impl.Ia{States: 41}, impl.Ia{States: 1}, false},
		{"one and 41 states", impl.Ia{States: 1}, impl.Ia{States: 41}, false},
		{"40 states and two", impl.Ia{States: 40}, impl.Ia{States: 2}, false},
		{"400 steps", ring(20, 200), impl.Ia{States: 2}, true},
		{"402 steps", ring(20, 201), impl.Ia{States: 2}, false},
		{"400 steps of e", impl.Ia{States: 2}, ring(20, 200), true},
		{"402 steps of e", impl.Ia{States: 2}, ring(20, 201), false},
		{"400 steps together", crowded(400), withSteps(impl.Ia{States: 1, Ins: []int{6}}, [3]int{0, 6, 0}), true},
		{"400 steps together and 40", crowded(400), withSteps(impl.Ia{States: 1, Ins: []int{6}, Hids: []int{0}}, [3]int{0, 0, 0}, [3]int{0, 6, 0}), false},
		{"400 steps that are not taken", crowded(400), impl.Ia{States: 1, Ins: []int{6}}, false},
		{"400 steps that are not taken, and cannot be come to", changed(crowded(400), func(a *impl.Ia) { a.Init = 39 }), impl.Ia{States: 1, Ins: []int{6}}, true},
	}
	for _, x := range tests {
		if got := checkLegal(t, x.a, x.e); got != x.want {
			t.Errorf("%s: Legal %v", x.name, got)
		}
	}
	// With 40 states and 40 mixes there is an environment, but no product of both.
	env, ok := impl.EnvOf(row(40))
	if !ok || env.States != 40 || impl.Legal(row(40), env) {
		t.Errorf("%+v, %v", env, ok)
	}
	if env, ok = impl.EnvOf(row(6)); !ok || !impl.Legal(row(6), env) {
		t.Errorf("%+v, %v", env, ok)
	}
	if env, ok = impl.EnvOf(row(7)); !ok || impl.Legal(row(7), env) {
		t.Errorf("%+v, %v", env, ok)
	}
}

func TestViewOfGoodAutomata(t *testing.T) {
	for name, a := range goodAutomata() {
		t.Run(name, func(t *testing.T) { checkView(t, a) })
	}
}

// smallAutomata are all of two states and an action of each kind, with one of both Inits each.
func smallAutomata() []impl.Ia {
	var all []impl.Ia
	for mask := range 1 << 12 {
		a := impl.Ia{States: 2, Init: mask / 3 % 2, Ins: []int{0}, Outs: []int{1}, Hids: []int{2}}
		for i := range 12 {
			if mask>>i&1 == 1 {
				a.Steps = append(a.Steps, impl.Step{From: i / 6, Act: i / 2 % 3, To: i % 2})
			}
		}
		if wantedOk(a) {
			all = append(all, a)
		}
	}
	return all
}

// Promise 6, over all automata of two states and an action of each kind, from each Init.
func TestViewOfAllSmallAutomata(t *testing.T) {
	for _, a := range smallAutomata() {
		checkView(t, a)
		a.Init = 1 - a.Init
		checkView(t, a)
	}
}

// Promise 6, over all automata of two states and an action of each kind, with all environments of two states that have nothing hidden.
func TestLegalOfAllSmallAutomata(t *testing.T) {
	environments := smallTalkers(1, 0)
	legal, not := 0, 0
	for i, a := range smallAutomata() {
		for j, e := range environments {
			e.Init = (i + j/3) % 2
			if checkLegal(t, a, e) {
				legal++
			} else {
				not++
			}
		}
	}
	if legal < 1000 || not < 1000 {
		t.Fatalf("%d legal, %d not: too few of one kind to tell", legal, not)
	}
}

// Promise 6, over all two automata of two states that take and say one action each, and nothing hidden.
func TestLegalOfAllSmallTalkers(t *testing.T) {
	for i, a := range smallTalkers(0, 1) {
		for j, e := range smallTalkers(1, 0) {
			a.Init, e.Init = (i+j)%2, (i/2+j/3)%2
			checkLegal(t, a, e)
		}
	}
}

// drawnComponent mostly takes what it may take, so that its environment has something to say.
func drawnComponent(d *draws, states int, count int) impl.Ia {
	a := impl.Ia{States: states, Init: d.below(states)}
	for x := range 10 {
		switch d.below(5) {
		case 0:
			a.Ins = append(a.Ins, x)
		case 1, 2:
			a.Outs = append(a.Outs, x)
		case 3:
			a.Hids = append(a.Hids, x)
		}
	}
	drawSteps(d, &a, count)
	return a
}

func TestViewOfDrawnAutomata(t *testing.T) {
	d := draws(61)
	count := map[string]int{}
	for i := range 500 {
		a := drawnComponent(&d, 1+d.below(9), []int{2, 5, 10, 20}[i%4])
		if i%5 == 0 {
			states := 1 + d.below(40)
			a = drawnIa(&d, states, []int{states, 2 * states, 400}[i%3])
		}
		got := checkView(t, a)
		_, product := impl.Product(a, got.env)
		switch {
		case !got.isMixes:
			count["too many mixes"]++
		case !got.isEnv:
			t.Fatalf("%+v: too many steps", a)
		case got.env.States == 1:
			count["one mix"]++
		case product && len(got.env.Steps) > 4:
			count["a product"]++
		default:
			count["no product"]++
		}
		for _, m := range got.mixes {
			if len(m.S) > 1 && len(impl.MixTaken(a, m.S)) > 0 && len(impl.MixSaid(a, m.S)) > 0 {
				count["mixes of several states that take and say"]++
			}
		}
	}
	for _, kind := range []string{"too many mixes", "one mix", "a product", "no product", "mixes of several states that take and say"} {
		if count[kind] < 10 {
			t.Fatalf("%v: too few of %q to tell", count, kind)
		}
	}
}

func TestViewOfSpoiltAutomata(t *testing.T) {
	d := draws(62)
	wrong := 0
	for range 1500 {
		a := drawnComponent(&d, 1+d.below(5), 1+d.below(8))
		spoil(&d, &a)
		if !wantedOk(a) {
			wrong++
		}
		checkView(t, a)
	}
	if wrong < 300 || wrong > 1400 {
		t.Fatalf("%d of 1500 are wrong: too few of one kind to tell", wrong)
	}
}

// drawnEnvironment is made of the one that says most: with fewer steps, with others, with hidden ones; or drawn anew.
func drawnEnvironment(d *draws, a impl.Ia, env impl.Ia) impl.Ia {
	e := cloneIa(env)
	switch d.below(5) {
	case 0:
		e.Steps = slices.DeleteFunc(e.Steps, func(x impl.Step) bool { return occurs(e.Outs, x.Act) && d.below(2) == 0 })
	case 1:
		if len(e.Steps) > 0 {
			place := d.below(len(e.Steps))
			e.Steps = slices.Delete(e.Steps, place, place+1)
		}
	case 2:
		if len(e.Outs) > 0 {
			e = withStep(e, impl.Step{From: d.below(e.States), Act: e.Outs[d.below(len(e.Outs))], To: d.below(e.States)})
			e.Steps = slices.Compact(e.Steps)
		}
	case 3:
		e.Hids = []int{10, 11}
		for range 1 + d.below(3) {
			e = withStep(e, impl.Step{From: d.below(e.States), Act: 10 + d.below(2), To: d.below(e.States)})
		}
		e.Steps = slices.Compact(e.Steps)
	case 4:
		e = impl.Ia{States: 1 + d.below(4), Ins: slices.Clone(a.Outs), Outs: slices.Clone(a.Ins), Hids: []int{11}}
		drawSteps(d, &e, d.below(3))
	}
	return e
}

func TestLegalOfDrawnEnvironments(t *testing.T) {
	d := draws(63)
	count := map[string]int{}
	for range 1500 {
		a := drawnComponent(&d, 1+d.below(5), 2+d.below(5))
		env, ok := impl.EnvOf(a)
		if !ok {
			continue
		}
		for range 4 {
			e := drawnEnvironment(&d, a, env)
			kind := "not legal"
			if checkLegal(t, a, e) {
				kind = "legal"
			} else if _, is := impl.Product(a, e); !is {
				kind = "no product"
			}
			if len(e.Hids) > 0 {
				kind += ", Hids"
			}
			if len(e.Steps) > 2 {
				count[kind]++
			}
		}
	}
	for _, kind := range []string{"legal", "legal, Hids", "not legal", "not legal, Hids", "no product", "no product, Hids"} {
		if count[kind] < 50 {
			t.Fatalf("%v: too few of %q to tell", count, kind)
		}
	}
}

// Drawn with no look at one another, or spoilt, two are seldom legal; the reference tells when.
func TestLegalOfSpoiltEnvironments(t *testing.T) {
	d := draws(64)
	for i := range 2000 {
		a := drawnComponent(&d, 1+d.below(5), 3)
		e, ok := impl.EnvOf(a)
		if !ok || i%3 == 0 {
			e = drawnComponent(&d, 1+d.below(5), 3)
		}
		if i%2 == 0 {
			spoil(&d, &e)
		} else {
			spoil(&d, &a)
		}
		checkLegal(t, a, e)
	}
	for range 200 {
		a, e := drawnTalkers(&d, 3)
		checkLegal(t, a, e)
	}
}

// What MixTaken and MixSaid answer is what SureTaken of all and MaySay of one say, said with the program's own.
func TestMixSaysWhatItsStatesSay(t *testing.T) {
	d := draws(65)
	for range 500 {
		states := 1 + d.below(8)
		a := drawnComponent(&d, states, 10)
		m := drawnList(&d, 1+d.below(5), states)
		taken, said := slices.Clone(a.Ins), []int{}
		for _, s := range m {
			taken, said = impl.SetMeet(taken, impl.SureTaken(a, s)), impl.SetJoin(said, impl.MaySay(a, s))
		}
		if got := impl.MixTaken(a, m); !slices.Equal(got, taken) {
			t.Fatalf("MixTaken(%+v, %v) = %v, SureTaken in each are %v", a, m, got, taken)
		}
		if got := impl.MixSaid(a, m); !slices.Equal(got, said) {
			t.Fatalf("MixSaid(%+v, %v) = %v, MaySay in one are %v", a, m, got, said)
		}
	}
}

// viewsForMemory has one of each outcome: not IaOk, too many mixes, too many steps, and environments.
func viewsForMemory() map[string]impl.Ia {
	all := hiddenForMemory()
	all["speaker"], all["too many mixes"], all["too many steps"] = speaker(), counter(6), patient(15)
	all["32 mixes"], all["400 steps of both"] = counter(5), patient(14)
	all["sets without a step"] = impl.Ia{States: 2, Ins: []int{1, 4}, Outs: []int{0, 5}, Hids: []int{2, 7}}
	d := draws(66)
	for i := range 40 {
		all[fmt.Sprint("component ", i)] = drawnComponent(&d, 1+d.below(7), 8)
	}
	return all
}

func TestViewedAreLeftAsTheyAre(t *testing.T) {
	for name, was := range viewsForMemory() {
		for _, wasM := range [][]int{nil, {0}, {1, 0}, {0, 0}, {0, 1, 2}, {0, 99}} {
			a, m := roomyIa(was), roomy(wasM)
			taken, said := impl.MixTaken(a, m), impl.MixSaid(a, m)
			checkIaUntouched(t, name, a, was)
			checkUntouched(t, name, m, wasM)
			scribble(taken)
			scribble(said)
			checkIaUntouched(t, name+", answers written over", a, was)
			checkUntouched(t, name+", answers written over", m, wasM)
		}
		a := roomyIa(was)
		got := viewOf(a)
		checkIaUntouched(t, name, a, was)
		got.scribble()
		checkIaUntouched(t, name+", answers written over", a, was)
		env, _ := impl.EnvOf(was)
		for _, wasE := range []impl.Ia{env, was, {States: 1, Ins: was.Outs, Outs: was.Ins}} {
			e := roomyIa(wasE)
			impl.Legal(a, e)
			checkIaUntouched(t, name+", Legal", a, was)
			checkIaUntouched(t, name+", Legal", e, wasE)
		}
	}
}

func TestViewSharesNoMemoryWithArguments(t *testing.T) {
	for name, was := range viewsForMemory() {
		for _, wasM := range [][]int{nil, {0}, {1, 0}, {0, 0}, {0, 1, 2}} {
			a, m := roomyIa(was), roomy(wasM)
			got, taken, said := viewOf(a), impl.MixTaken(a, m), impl.MixSaid(a, m)
			want, wantTaken, wantSaid := got.clone(), slices.Clone(taken), slices.Clone(said)
			scribbleIa(a)
			scribble(m)
			if !got.same(want) || !slices.Equal(taken, wantTaken) || !slices.Equal(said, wantSaid) {
				t.Fatalf("%s: an answer shares memory with an argument", name)
			}
		}
	}
}

func TestListsOfViewsShareNoMemory(t *testing.T) {
	for name, a := range viewsForMemory() {
		checkListsApart(t, name+", EnvOf", func() impl.Ia {
			env, _ := impl.EnvOf(a)
			return env
		})
		want := viewOf(a).clone().mixes
		for i := range want {
			got, _ := impl.Mixes(a)
			scribble(got[i].S)
			got[i].S = want[i].S
			if !sameMixes(got, want) {
				t.Fatalf("%s: two mixes share memory: %v, want %v", name, got, want)
			}
		}
	}
}

// No call keeps anything: an answer that is written over is not told again.
func TestNoViewIsKeptForAnother(t *testing.T) {
	for name, a := range viewsForMemory() {
		want := wantedWatcher(a).wantedView()
		for range 3 {
			got := viewOf(a)
			if !got.same(want) {
				t.Fatalf("%s: %+v, want %+v", name, got, want)
			}
			got.scribble()
			scribble(impl.MixTaken(a, []int{0}))
			scribble(impl.MixSaid(a, []int{0}))
		}
	}
}

// The lists of both, and m, may lie in one piece of memory, or be the same ones.
func TestViewOfListsInOnePiece(t *testing.T) {
	was := []int{0, 5, 1, 11, 2, 7}
	piece := slices.Clone(was)
	a := whisperer()
	a.Ins, a.Outs, a.Hids = piece[:2], piece[2:4], piece[4:]
	checkView(t, a)
	if taken, said := impl.MixTaken(a, piece[:2]), impl.MixSaid(a, piece[:2]); len(taken) != 0 || !slices.Equal(said, []int{1, 11}) {
		t.Error(taken, said)
	}
	if taken, said := impl.MixTaken(a, piece[:1]), impl.MixSaid(a, piece[:1]); !slices.Equal(taken, []int{0}) || !slices.Equal(said, []int{1, 11}) {
		t.Error(taken, said)
	}
	e := withSteps(impl.Ia{States: 1}, [3]int{0, 1, 0})
	e.Ins, e.Outs = a.Outs, a.Ins
	if !checkLegal(t, a, e) {
		t.Error("not legal")
	}
	viewOf(a).scribble()
	if !slices.Equal(piece, was) {
		t.Fatal("the argument was written into", piece)
	}
}

func TestViewDoesNotReadSpareRoom(t *testing.T) {
	a := whisperer()
	a.Init, a.Ins, a.Outs, a.Hids, a.Steps = 0, a.Ins[:2], a.Outs[:1], a.Hids[:1], a.Steps[:5]
	want := view{mixesOf([]int{0, 1}, []int{1, 5}, []int{4}), true, withSteps(impl.Ia{States: 3, Ins: []int{1}, Outs: []int{0, 5}}, [3]int{0, 0, 1}, [3]int{0, 1, 2}, [3]int{1, 1, 2}), true}
	if got := checkView(t, a); !got.same(want) {
		t.Fatalf("%+v, want %+v", got, want)
	}
	m := []int{5, 3, 99}
	if taken, said := impl.MixTaken(whisperer(), m[:1]), impl.MixSaid(whisperer(), m[:2]); !slices.Equal(taken, []int{5}) || !slices.Equal(said, []int{1}) {
		t.Fatal(taken, said)
	}
	e := withSteps(impl.Ia{States: 1, Ins: []int{1, 6}, Outs: []int{0, 5, 7}, Hids: []int{2}}, [3]int{0, 1, 0}, [3]int{0, 7, 0})
	e.Ins, e.Outs, e.Hids, e.Steps = e.Ins[:1], e.Outs[:2], e.Hids[:0], e.Steps[:1]
	if !checkLegal(t, a, e) {
		t.Fatal("not legal")
	}
}
