package tests

import (
	"fmt"
	"math"
	"slices"
	"testing"

	"loop.example/g00645/impl"
)

// rivals has the reference's answers of two, and for each pair the round in which it goes, 0 where it goes in none.
type rivals struct {
	q, p    watcher
	letters bool
	goes    [40][40]int
}

func wantedLetters(q impl.Ia, p impl.Ia) bool {
	if !wantedOk(q) || !wantedOk(p) {
		return false
	}
	for act := range 12 {
		if kindOf(p, act) == "in" && kindOf(q, act) != "in" || kindOf(q, act) == "out" && kindOf(p, act) != "out" {
			return false
		}
	}
	return true
}

// wantedRivals is the document's chapter 7 for two, with no code of the program.
func wantedRivals(q watcher, p watcher) *rivals {
	w := &rivals{q: q, p: p, letters: wantedLetters(q.a, p.a)}
	for k, some := 1, w.letters; some; k++ {
		some = false
		for v := range q.a.States {
			for u := range p.a.States {
				if w.goes[v][u] == 0 && !w.holds(v, u, w.ahead(k)) {
					w.goes[v][u], some = k, true
				}
			}
		}
	}
	return w
}

// ahead tells of the round ahead of Rk which pairs are in it, also while that one is being found.
func (w *rivals) ahead(k int) func(v int, u int) bool {
	return func(v int, u int) bool { return w.goes[v][u] == 0 || w.goes[v][u] >= k }
}

// lost gives the first action that is asked of both, and the first state that v comes to with it, which has no pair.
func (w *rivals) lost(v int, u int, in func(v int, u int) bool) (int, int, bool) {
	for act := range 12 {
		if !occurs(w.p.sure[u], act) && !occurs(w.q.said[v], act) {
			continue
		}
		for _, x := range w.q.far[v][act] {
			if !slices.ContainsFunc(w.p.far[u][act], func(y int) bool { return in(x, y) }) {
				return act, x, true
			}
		}
	}
	return 0, 0, false
}

func (w *rivals) holds(v int, u int, in func(v int, u int) bool) bool {
	for act := range 12 {
		if occurs(w.p.sure[u], act) && !occurs(w.q.sure[v], act) || occurs(w.q.said[v], act) && !occurs(w.p.said[u], act) {
			return false
		}
	}
	_, _, lost := w.lost(v, u, in)
	return !lost
}

func (w *rivals) holdsIn(v int, u int, rel []impl.Pair) bool {
	if !w.letters || !w.q.has(v) || !w.p.has(u) {
		return false
	}
	return w.holds(v, u, func(x int, y int) bool { return slices.Contains(rel, impl.Pair{A: x, B: y}) })
}

func (w *rivals) pairs(in func(v int, u int) bool) []impl.Pair {
	var pairs []impl.Pair
	for v := 0; w.letters && v < w.q.a.States; v++ {
		for u := range w.p.a.States {
			if in(v, u) {
				pairs = append(pairs, impl.Pair{A: v, B: u})
			}
		}
	}
	return pairs
}

func (w *rivals) all() []impl.Pair { return w.pairs(func(v int, u int) bool { return true }) }

func (w *rivals) sim() []impl.Pair {
	return w.pairs(func(v int, u int) bool { return w.goes[v][u] == 0 })
}

// round is that in which the pair of both Inits goes.
func (w *rivals) round() int { return w.goes[w.q.a.Init][w.p.a.Init] }

// rounds is how many of them take pairs away.
func (w *rivals) rounds() int {
	last := 0
	for v := range w.goes {
		last = max(last, slices.Max(w.goes[v][:]))
	}
	return last
}

func (w *rivals) refines() bool { return w.letters && w.round() == 0 }

func (w *rivals) spoiler() []int {
	if !w.letters {
		return nil
	}
	var acts []int
	v, u := w.q.a.Init, w.p.a.Init
	for w.goes[v][u] > 1 {
		act, x, _ := w.lost(v, u, w.ahead(w.goes[v][u]))
		acts = append(acts, act)
		if len(w.p.far[u][act]) == 0 {
			break
		}
		v, u = x, w.p.far[u][act][0]
	}
	return acts
}

// check holds all answers but Holds against the reference.
func (w *rivals) check(t *testing.T) {
	t.Helper()
	q, p := w.q.a, w.p.a
	if got := impl.Letters(q, p); got != w.letters {
		t.Fatalf("Letters(%+v, %+v) = %v", q, p, got)
	}
	if got, want := impl.Sim(q, p), w.sim(); !slices.Equal(got, want) {
		t.Fatalf("Sim(%+v, %+v) = %v, want %v", q, p, got, want)
	}
	if got := impl.Refines(q, p); got != w.refines() {
		t.Fatalf("Refines(%+v, %+v) = %v", q, p, got)
	}
	if got, want := impl.Spoiler(q, p), w.spoiler(); !slices.Equal(got, want) {
		t.Fatalf("Spoiler(%+v, %+v) = %v, want %v", q, p, got, want)
	}
}

func pairsOf(list [][2]int) []impl.Pair {
	var pairs []impl.Pair
	for _, x := range list {
		pairs = append(pairs, impl.Pair{A: x[0], B: x[1]})
	}
	return pairs
}

// noPairs are none of states, of whatever automata.
var noPairs = []impl.Pair{
	{A: -1, B: 0}, {A: 0, B: -1}, {A: -1, B: -1}, {A: 40, B: 0}, {A: 0, B: 40}, {A: 64, B: 0}, {A: 0, B: 63}, {A: 0, B: 64}, {A: 1, B: -64},
	{A: math.MinInt, B: 0}, {A: 0, B: math.MinInt}, {A: math.MaxInt, B: math.MaxInt}, {A: 0, B: math.MaxInt}, {A: math.MinInt, B: math.MinInt},
}

// mingled has all of rel twice, out of order, and pairs that are none between them.
func mingled(rel []impl.Pair) []impl.Pair {
	all := slices.Clone(noPairs)
	for i := range rel {
		all = append(all, rel[len(rel)-1-i], noPairs[i%len(noPairs)])
	}
	return append(all, rel...)
}

// turned has the numbers of each pair the other way round.
func turned(rel []impl.Pair) []impl.Pair {
	var all []impl.Pair
	for _, x := range rel {
		all = append(all, impl.Pair{A: x.B, B: x.A})
	}
	return all
}

func (w *rivals) checkHolds(t *testing.T, v int, u int, rel []impl.Pair) {
	t.Helper()
	want := w.holdsIn(v, u, rel)
	if got := impl.Holds(w.q.a, w.p.a, v, u, rel); got != want {
		t.Fatalf("Holds(%+v, %+v, %d, %d, %v) = %v", w.q.a, w.p.a, v, u, rel, got)
	}
	if got := impl.Holds(w.q.a, w.p.a, v, u, mingled(rel)); got != want {
		t.Fatalf("Holds(%+v, %+v, %d, %d, %v) = %v", w.q.a, w.p.a, v, u, mingled(rel), got)
	}
}

// checkAllHolds asks Holds of all pairs, and beside them, in all kinds of relations.
func (w *rivals) checkAllHolds(t *testing.T) {
	t.Helper()
	sim := w.sim()
	rels := [][]impl.Pair{nil, {}, w.all(), sim, turned(sim), noPairs}
	for i := range sim {
		rels = append(rels, slices.Delete(slices.Clone(sim), i, i+1))
	}
	for _, rel := range rels {
		for v := -1; v <= w.q.a.States; v++ {
			for u := -1; u <= w.p.a.States; u++ {
				w.checkHolds(t, v, u, rel)
			}
		}
	}
}

// checkSim is asked of the program alone: each pair Holds with all of Sim, and any other one does not with Sim and itself.
func checkSim(t *testing.T, q impl.Ia, p impl.Ia) {
	t.Helper()
	sim := impl.Sim(q, p)
	for v := range q.States {
		for u := range p.States {
			x := impl.Pair{A: v, B: u}
			if impl.Holds(q, p, v, u, append(slices.Clone(sim), x)) != slices.Contains(sim, x) {
				t.Fatalf("of %+v and %+v: Sim %v is wrong of the pair %v", q, p, sim, x)
			}
		}
	}
}

// checkRivals holds all answers of small automata against the reference.
func checkRivals(t *testing.T, q impl.Ia, p impl.Ia) *rivals {
	t.Helper()
	w := wantedRivals(wantedWatcher(q), wantedWatcher(p))
	w.check(t)
	w.checkAllHolds(t)
	if w.letters {
		checkSim(t, q, p)
	}
	return w
}

// checkNoLetters fails if any answer of two without Letters is not nothing.
func checkNoLetters(t *testing.T, what string, q impl.Ia, p impl.Ia) {
	t.Helper()
	if impl.Letters(q, p) || impl.Refines(q, p) || len(impl.Sim(q, p)) > 0 || len(impl.Spoiler(q, p)) > 0 {
		t.Errorf("%s: Letters %v, Refines %v, Sim %v, Spoiler %v", what, impl.Letters(q, p), impl.Refines(q, p), impl.Sim(q, p), impl.Spoiler(q, p))
	}
	rel := []impl.Pair{{A: 0, B: 0}, {A: 0, B: 1}, {A: 1, B: 0}, {A: 1, B: 1}, {A: 0, B: 2}, {A: 2, B: 0}}
	for _, x := range append(rel, append(noPairs, impl.Pair{A: q.Init, B: p.Init}, impl.Pair{A: q.States, B: p.States})...) {
		if impl.Holds(q, p, x.A, x.B, rel) || impl.Holds(q, p, x.A, x.B, nil) {
			t.Errorf("%s: %v Holds", what, x)
		}
	}
}

// mini takes 0 and 5, says 1 and 6, and hides 2.
func mini(states int, steps ...[3]int) impl.Ia {
	return withSteps(impl.Ia{States: states, Ins: []int{0, 5}, Outs: []int{1, 6}, Hids: []int{2}}, steps...)
}

func TestLettersByHand(t *testing.T) {
	one := func(ins []int, outs []int, hids []int) impl.Ia {
		return impl.Ia{States: 1, Ins: ins, Outs: outs, Hids: hids}
	}
	full := one([]int{1, 4}, []int{2, 5}, []int{3, 6})
	tests := []struct {
		name string
		q, p impl.Ia
		want bool
	}{
		{"no actions at all", one(nil, nil, nil), one(nil, nil, nil), true},
		{"with itself", full, full, true},
		{"one less of Ins", one([]int{1}, []int{2, 5}, []int{3, 6}), full, false},
		{"another one of Ins", one([]int{1, 7}, []int{2, 5}, []int{3, 6}), full, false},
		{"no Ins", one(nil, []int{2, 5}, nil), full, false},
		{"one more of Ins", one([]int{1, 4, 7}, []int{2, 5}, []int{3, 6}), full, true},
		{"one more of Ins, ahead", one([]int{0, 1, 4}, []int{2, 5}, []int{3, 6}), full, true},
		{"one more of Outs", one([]int{1, 4}, []int{2, 5, 7}, []int{3, 6}), full, false},
		{"another one of Outs", one([]int{1, 4}, []int{2, 7}, []int{3, 6}), full, false},
		{"one less of Outs", one([]int{1, 4}, []int{5}, []int{3, 6}), full, true},
		{"no Outs", one([]int{1, 4}, nil, nil), full, true},
		{"more of Ins and less of Outs", one([]int{0, 1, 4, 11}, []int{2}, nil), full, true},
		{"more of Ins and more of Outs", one([]int{1, 4, 11}, []int{2, 5, 10}, nil), full, false},
		{"less of both", one([]int{1}, []int{2}, nil), full, false},
		{"no actions, p has all", one(nil, nil, nil), full, false},
		{"p has no actions", full, one(nil, nil, nil), false},
		{"p has no actions, and no Outs here", one([]int{1, 4}, nil, []int{3}), one(nil, nil, nil), true},
		{"p has no Ins, and no actions here", one(nil, nil, nil), one(nil, []int{2, 5}, []int{3}), true},
		{"no Hids", one([]int{1, 4}, []int{2, 5}, nil), full, true},
		{"other Hids", one([]int{1, 4}, []int{2, 5}, []int{0, 11}), full, true},
		{"p's Hids in Ins", one([]int{1, 3, 4, 6}, []int{2, 5}, nil), full, true},
		{"one of p's Hids in Outs", one([]int{1, 4}, []int{2, 3, 5}, nil), full, false},
		{"p's Outs in Hids", one([]int{1, 4}, nil, []int{2, 5}), full, true},
		{"p's Outs in Ins", one([]int{1, 2, 4, 5}, nil, nil), full, true},
		{"one of p's Ins in Hids", one([]int{1}, []int{2, 5}, []int{4}), full, false},
		{"one of p's Ins in Outs", one([]int{1}, []int{2, 4, 5}, nil), full, false},
		{"Ins and Outs the other way round", one([]int{2, 5}, []int{1, 4}, []int{3, 6}), full, false},
		{"all actions", one(actionsOf(0xfff), nil, nil), one(actionsOf(0x0f0), actionsOf(0xf00), actionsOf(0x00f)), true},
		{"all but the last action", one(actionsOf(0x7ff), nil, nil), one([]int{11}, nil, nil), false},
		{"all but the first action", one(actionsOf(0xffe), nil, nil), one([]int{0}, nil, nil), false},
	}
	for _, x := range tests {
		if got := impl.Letters(x.q, x.p); got != x.want {
			t.Errorf("%s: Letters %v", x.name, got)
		}
		if !x.want {
			checkNoLetters(t, x.name, x.q, x.p)
		}
		// Where nothing is done, Letters is all that is asked.
		if got := impl.Refines(x.q, x.p); got != x.want {
			t.Errorf("%s: Refines %v", x.name, got)
		}
		checkRivals(t, x.q, x.p)
		checkRivals(t, x.p, x.q)
	}
}

// All kinds that three actions may have in both.
func TestLettersOfAllKindsOfThreeActions(t *testing.T) {
	kinds := func(mask int) impl.Ia {
		a := impl.Ia{States: 1}
		sets := []*[]int{new([]int), &a.Ins, &a.Outs, &a.Hids}
		for i, act := range []int{0, 6, 11} {
			set := sets[mask>>(2*i)&3]
			*set = append(*set, act)
		}
		return a
	}
	for i := range 64 {
		for j := range 64 {
			wantedRivals(wantedWatcher(kinds(i)), wantedWatcher(kinds(j))).check(t)
		}
	}
}

func TestNoLettersOfWrongAutomata(t *testing.T) {
	for name, wrong := range wrongAutomata() {
		if wantedOk(wrong) {
			t.Fatalf("%s: %+v is IaOk", name, wrong)
		}
		checkNoLetters(t, name+", with itself", wrong, wrong)
		// The sets of these are such that they alone would do.
		checkNoLetters(t, name+", in the place of", wrong, impl.Ia{States: 1, Outs: actionsOf(0xfff)})
		checkNoLetters(t, name+", in whose place", impl.Ia{States: 1, Ins: actionsOf(0xfff)}, wrong)
		checkNoLetters(t, name+", in the place of another one with its sets", wrong, impl.Ia{States: 2, Ins: wrong.Ins, Outs: wrong.Outs})
		checkNoLetters(t, name+", in whose place one with its sets", impl.Ia{States: 2, Ins: wrong.Ins, Outs: wrong.Outs}, wrong)
	}
}

// holdsCase asks whether the pair of 0 and 0 Holds with rel.
type holdsCase struct {
	name string
	q, p impl.Ia
	rel  [][2]int
	want bool
}

// everyPair has all pairs of three states.
var everyPair = [][2]int{{0, 0}, {0, 1}, {0, 2}, {1, 0}, {1, 1}, {1, 2}, {2, 0}, {2, 1}, {2, 2}}

func (x holdsCase) check(t *testing.T) {
	t.Helper()
	rel := pairsOf(x.rel)
	for _, rel := range [][]impl.Pair{rel, mingled(rel), slices.Concat(rel, rel)} {
		if got := impl.Holds(x.q, x.p, 0, 0, rel); got != x.want {
			t.Errorf("%s: Holds %v with %v", x.name, got, rel)
		}
	}
	checkRivals(t, x.q, x.p)
}

func TestHoldsByHand(t *testing.T) {
	type pairs = [][2]int
	takes, says := mini(1, [3]int{0, 0, 0}), mini(1, [3]int{0, 1, 0})
	fork := mini(3, [3]int{0, 1, 1}, [3]int{0, 1, 2})
	two := mini(2, [3]int{0, 1, 0}, [3]int{0, 1, 1})
	both := mini(3, [3]int{0, 1, 1}, [3]int{0, 5, 2})
	tests := []holdsCase{
		{"nothing is done", mini(1), mini(1), nil, true},
		{"taken surely by u, not by v", mini(1), takes, everyPair, false},
		{"taken surely by v, not by u", takes, mini(1), nil, true},
		{"said by v, not by u", says, mini(1), everyPair, false},
		{"said by u, not by v", mini(1), says, nil, true},
		{"taken by both", takes, takes, pairs{{0, 0}}, true},
		{"taken by both, no pair", takes, takes, nil, false},
		{"said by both", says, says, pairs{{0, 0}}, true},
		{"said by both, no pair", says, says, nil, false},
		{"v takes one, and u another one", mini(1, [3]int{0, 5, 0}), takes, everyPair, false},
		{"v says one, and u another one", mini(1, [3]int{0, 6, 0}), says, everyPair, false},
		{"v says what u says, and more", mini(1, [3]int{0, 1, 0}, [3]int{0, 6, 0}), says, everyPair, false},
		{"v takes less than u", takes, mini(1, [3]int{0, 0, 0}, [3]int{0, 5, 0}), everyPair, false},
		{"the pair is there", mini(2, [3]int{0, 1, 1}), says, pairs{{1, 0}}, true},
		{"the pair is the other way round", mini(2, [3]int{0, 1, 1}), says, pairs{{0, 1}}, false},
		{"the pair of both is not enough", mini(2, [3]int{0, 1, 1}), says, pairs{{0, 0}}, false},
		{"each of v's has one", fork, two, pairs{{1, 0}, {2, 1}}, true},
		{"each of v's has the same", fork, two, pairs{{1, 1}, {2, 1}}, true},
		{"the second of v's has none", fork, two, pairs{{1, 0}, {1, 1}}, false},
		{"the first of v's has none", fork, two, pairs{{2, 0}, {2, 1}}, false},
		{"u has more of them", says, two, pairs{{0, 1}}, true},
		{"u has more of them, without a pair", says, two, pairs{{1, 0}, {1, 1}}, false},
		{"two actions", both, both, pairs{{1, 1}, {2, 2}}, true},
		{"two actions, the one that is taken has no pair", both, both, pairs{{1, 1}, {1, 2}}, false},
		{"two actions, the one that is said has no pair", both, both, pairs{{2, 2}, {1, 2}}, false},
	}
	for _, x := range tests {
		x.check(t)
	}
}

func TestHoldsWithHiddenSteps(t *testing.T) {
	type pairs = [][2]int
	takes, says := mini(1, [3]int{0, 0, 0}), mini(1, [3]int{0, 1, 0})
	tests := []holdsCase{
		{"v says it behind a hidden step", mini(2, [3]int{0, 2, 1}, [3]int{1, 1, 0}), says, pairs{{0, 0}}, true},
		{"v says it behind a hidden step, no pair", mini(2, [3]int{0, 2, 1}, [3]int{1, 1, 0}), says, pairs{{1, 0}}, false},
		{"v says it behind a hidden step, u does not", mini(2, [3]int{0, 2, 1}, [3]int{1, 1, 0}), mini(1), everyPair, false},
		{"u says it behind a hidden step", says, mini(2, [3]int{0, 2, 1}, [3]int{1, 1, 1}), pairs{{0, 1}}, true},
		{"u says it behind a hidden step, no pair", says, mini(2, [3]int{0, 2, 1}, [3]int{1, 1, 1}), pairs{{0, 0}}, false},
		{"v takes it, but not behind a hidden step", mini(2, [3]int{0, 0, 0}, [3]int{0, 2, 1}), takes, everyPair, false},
		{"v takes it here and behind a hidden step", mini(2, [3]int{0, 0, 0}, [3]int{0, 2, 1}, [3]int{1, 0, 1}), takes, pairs{{0, 0}, {1, 0}}, true},
		{"v takes it here and behind a hidden step, no pair there", mini(2, [3]int{0, 0, 0}, [3]int{0, 2, 1}, [3]int{1, 0, 1}), takes, pairs{{0, 0}}, false},
		{"u takes it, but not behind a hidden step", mini(1), mini(2, [3]int{0, 0, 0}, [3]int{0, 2, 1}), nil, true},
		{"u takes it, but not surely, and v surely", takes, mini(2, [3]int{0, 0, 0}, [3]int{0, 2, 1}), nil, true},
		{"u takes it surely, a pair behind a hidden step", takes, mini(3, [3]int{0, 0, 1}, [3]int{0, 2, 2}, [3]int{2, 0, 2}), pairs{{0, 2}}, true},
		{"u takes it surely, a pair here", takes, mini(3, [3]int{0, 0, 1}, [3]int{0, 2, 2}, [3]int{2, 0, 2}), pairs{{0, 1}}, true},
		{"u takes it surely, no pair", takes, mini(3, [3]int{0, 0, 1}, [3]int{0, 2, 2}, [3]int{2, 0, 2}), pairs{{0, 0}, {1, 1}, {2, 2}}, false},
		{"where it comes to a hidden step, that is not gone along", mini(3, [3]int{0, 1, 1}, [3]int{1, 2, 2}), says, pairs{{2, 0}}, false},
	}
	for _, x := range tests {
		x.check(t)
	}
}

func TestHoldsWithOtherLetters(t *testing.T) {
	with := func(a impl.Ia, ins []int, outs []int, hids []int) impl.Ia {
		a.Ins, a.Outs, a.Hids = ins, outs, hids
		return a
	}
	says := mini(1, [3]int{0, 1, 0})
	tests := []holdsCase{
		{"an input of q that p does not have", withStep(with(mini(1), []int{0, 5, 9}, []int{1, 6}, nil), impl.Step{Act: 9}), mini(1), nil, true},
		{"an input of q that p hides", withStep(with(mini(1), []int{0, 5, 9}, []int{1, 6}, nil), impl.Step{Act: 9}),
			withStep(with(mini(2), []int{0, 5}, []int{1, 6}, []int{9}), impl.Step{Act: 9, To: 1}), nil, true},
		{"an input of q that p says", withStep(with(mini(1), []int{0, 5, 9}, []int{1, 6}, nil), impl.Step{Act: 9}),
			withStep(with(mini(2), []int{0, 5}, []int{1, 6, 9}, nil), impl.Step{Act: 9, To: 1}), nil, true},
		{"an output of p that q hides", with(mini(2, [3]int{0, 1, 1}), []int{0, 5}, []int{6}, []int{1}), says, nil, true},
		{"an output of p that q hides, and says more then", with(mini(2, [3]int{0, 1, 1}, [3]int{1, 6, 0}), []int{0, 5}, []int{6}, []int{1}), says, everyPair, false},
	}
	for _, x := range tests {
		x.check(t)
	}
}

func TestHoldsOfNoStates(t *testing.T) {
	q, p := mini(2, [3]int{0, 1, 1}), mini(3, [3]int{0, 1, 1})
	rel := []impl.Pair{{A: 0, B: 0}, {A: 1, B: 1}, {A: 1, B: 2}, {A: -1, B: -1}, {A: 2, B: 3}}
	for _, s := range []int{math.MinInt, -64, -1, 3, 40, 63, 64, math.MaxInt} {
		for _, x := range []impl.Pair{{A: s, B: 0}, {A: 0, B: s}, {A: s, B: s}, {A: 1, B: s}, {A: s, B: 2}} {
			if impl.Holds(q, p, x.A, x.B, rel) || impl.Holds(q, p, x.A, x.B, nil) || impl.Holds(q, p, x.A, x.B, []impl.Pair{x}) {
				t.Errorf("%v Holds", x)
			}
		}
	}
	// 2 is a state of p, not of q.
	if impl.Holds(q, p, 2, 0, rel) || !impl.Holds(q, p, 1, 2, rel) || !impl.Holds(q, p, 0, 0, rel) {
		t.Error("a state of p is none of q")
	}
}

// The pair that is asked for need not be in rel, and a pair in rel need not hold.
func TestHoldsAsksForWhatItComesToAlone(t *testing.T) {
	q := mini(3, [3]int{0, 1, 1}, [3]int{1, 6, 2})
	if !impl.Holds(q, q, 0, 0, []impl.Pair{{A: 1, B: 1}}) || !impl.Holds(q, q, 1, 1, []impl.Pair{{A: 2, B: 2}}) || !impl.Holds(q, q, 2, 2, nil) {
		t.Error("a pair that is not in rel")
	}
	p := mini(2, [3]int{0, 1, 1})
	if !impl.Holds(q, p, 0, 0, []impl.Pair{{A: 1, B: 1}}) || impl.Holds(q, p, 1, 1, []impl.Pair{{A: 1, B: 1}, {A: 2, B: 1}}) {
		t.Error("a pair that does not hold")
	}
}

func TestHoldsInALongRelation(t *testing.T) {
	q := mini(2, [3]int{0, 1, 1})
	long := slices.Repeat(noPairs, 20000)
	if impl.Holds(q, q, 0, 0, long) || !impl.Holds(q, q, 0, 0, append(long, impl.Pair{A: 1, B: 1})) {
		t.Error("Holds")
	}
}

func TestSimByHand(t *testing.T) {
	type pairs = [][2]int
	tests := []struct {
		name   string
		q, p   impl.Ia
		want   pairs
		rounds int // how many of them take pairs away
	}{
		{"one and one", mini(1), mini(1), pairs{{0, 0}}, 0},
		{"all stay, where nothing is done", mini(2), mini(3), pairs{{0, 0}, {0, 1}, {0, 2}, {1, 0}, {1, 1}, {1, 2}}, 0},
		{"all stay, where nothing is done, the other way round", mini(3), mini(2), pairs{{0, 0}, {0, 1}, {1, 0}, {1, 1}, {2, 0}, {2, 1}}, 0},
		{"all stay, in circles of 2 and 3", mini(2, [3]int{0, 1, 1}, [3]int{1, 1, 0}), mini(3, [3]int{0, 1, 1}, [3]int{1, 1, 2}, [3]int{2, 1, 0}),
			pairs{{0, 0}, {0, 1}, {0, 2}, {1, 0}, {1, 1}, {1, 2}}, 0},
		{"none stays", mini(2, [3]int{0, 1, 0}, [3]int{1, 6, 0}), mini(2), nil, 1},
		{"none stays, taken", mini(2), mini(3, [3]int{0, 0, 0}, [3]int{1, 5, 0}, [3]int{2, 0, 1}), nil, 1},
		{"two that lean on one another alone", mini(2, [3]int{0, 1, 1}, [3]int{1, 6, 0}), mini(2, [3]int{0, 1, 1}, [3]int{1, 6, 0}), pairs{{0, 0}, {1, 1}}, 1},
		{"three that lean on one another, taken and said", mini(3, [3]int{0, 0, 1}, [3]int{1, 1, 2}, [3]int{2, 6, 0}), mini(3, [3]int{0, 0, 1}, [3]int{1, 1, 2}, [3]int{2, 6, 0}),
			pairs{{0, 0}, {0, 1}, {0, 2}, {1, 1}, {2, 2}}, 1},
		{"one that leans on itself", mini(1, [3]int{0, 5, 0}), mini(2, [3]int{0, 5, 0}), pairs{{0, 0}, {0, 1}}, 0},
		{"a circle that is broken at one place", mini(3, [3]int{0, 1, 1}, [3]int{1, 1, 2}, [3]int{2, 1, 0}, [3]int{2, 6, 0}), mini(3, [3]int{0, 1, 1}, [3]int{1, 1, 2}, [3]int{2, 1, 0}), nil, 3},
		{"rows, fewer steps left", row(5), row(3), pairs{{2, 0}, {3, 0}, {3, 1}, {4, 0}, {4, 1}, {4, 2}}, 3},
		{"rows, more steps left", row(3), row(5), pairs{{0, 0}, {0, 1}, {0, 2}, {1, 0}, {1, 1}, {1, 2}, {1, 3}, {2, 0}, {2, 1}, {2, 2}, {2, 3}, {2, 4}}, 2},
		{"states that are not come to count, too", mini(3, [3]int{1, 1, 2}), mini(2, [3]int{1, 6, 0}), pairs{{0, 0}, {0, 1}, {2, 0}, {2, 1}}, 1},
		{"who says, and who may say behind a hidden step", mini(2, [3]int{0, 1, 0}), mini(2, [3]int{0, 2, 1}, [3]int{1, 1, 0}), pairs{{0, 0}, {0, 1}, {1, 0}, {1, 1}}, 0},
		{"an input that p does not have leads anywhere", changed(mini(2, [3]int{0, 9, 1}, [3]int{1, 1, 1}), func(a *impl.Ia) { a.Ins = []int{0, 5, 9} }), mini(1), pairs{{0, 0}}, 1},
	}
	for _, x := range tests {
		if got := impl.Sim(x.q, x.p); !slices.Equal(got, pairsOf(x.want)) {
			t.Errorf("%s: %v, want %v", x.name, got, x.want)
		}
		if w := checkRivals(t, x.q, x.p); w.rounds() != x.rounds {
			t.Errorf("%s: pairs go in %d rounds, want %d", x.name, w.rounds(), x.rounds)
		}
	}
}

func TestRefinesByHand(t *testing.T) {
	with := func(a impl.Ia, change func(a *impl.Ia)) impl.Ia { return changed(a, change) }
	p := mini(3, [3]int{0, 0, 1}, [3]int{1, 1, 2}, [3]int{1, 6, 0}, [3]int{2, 5, 0})
	tests := []struct {
		name string
		q, p impl.Ia
		want bool
	}{
		{"itself", p, p, true},
		{"says less", mini(3, [3]int{0, 0, 1}, [3]int{1, 1, 2}, [3]int{2, 5, 0}), p, true},
		{"says nothing", mini(2, [3]int{0, 0, 1}), p, true},
		{"says nothing, without Outs", with(mini(2, [3]int{0, 0, 1}), func(a *impl.Ia) { a.Outs = nil }), p, true},
		{"says more", mini(3, [3]int{0, 0, 1}, [3]int{1, 1, 2}, [3]int{1, 6, 0}, [3]int{2, 1, 2}, [3]int{2, 5, 0}), p, false},
		{"says more at once", mini(3, [3]int{0, 0, 1}, [3]int{0, 6, 0}, [3]int{1, 1, 2}, [3]int{1, 6, 0}, [3]int{2, 5, 0}), p, false},
		{"says more where it cannot be come to", mini(4, [3]int{0, 0, 1}, [3]int{1, 1, 2}, [3]int{1, 6, 0}, [3]int{2, 5, 0}, [3]int{3, 6, 3}), p, true},
		{"says the same, and goes elsewhere", mini(3, [3]int{0, 0, 1}, [3]int{1, 1, 1}, [3]int{1, 6, 0}, [3]int{2, 5, 0}), p, false},
		{"takes less", mini(3, [3]int{0, 0, 1}, [3]int{1, 1, 2}, [3]int{1, 6, 0}), p, false},
		{"takes less at once", mini(3, [3]int{1, 1, 2}, [3]int{1, 6, 0}, [3]int{2, 5, 0}), p, false},
		{"takes nothing", mini(1), p, false},
		{"takes more", mini(3, [3]int{0, 0, 1}, [3]int{0, 5, 2}, [3]int{1, 0, 1}, [3]int{1, 1, 2}, [3]int{1, 6, 0}, [3]int{2, 5, 0}), p, true},
		{"takes more, and says then what it likes", mini(4, [3]int{0, 0, 1}, [3]int{0, 5, 3}, [3]int{1, 1, 2}, [3]int{1, 6, 0}, [3]int{2, 5, 0}, [3]int{3, 6, 3}), p, true},
		{"takes the same, and goes elsewhere", mini(3, [3]int{0, 0, 1}, [3]int{1, 1, 2}, [3]int{1, 6, 0}, [3]int{2, 5, 2}), p, false},
		{"takes what p has not", with(mini(3, [3]int{0, 0, 1}, [3]int{0, 9, 2}, [3]int{1, 1, 2}, [3]int{1, 6, 0}, [3]int{2, 5, 0}, [3]int{2, 9, 1}), func(a *impl.Ia) { a.Ins = []int{0, 5, 9} }), p, true},
		{"has Outs that p has not, and never says them", with(p, func(a *impl.Ia) { a.Outs = []int{1, 6, 9} }), p, false},
		{"has Ins that p has not, and never takes them", with(p, func(a *impl.Ia) { a.Ins = []int{0, 5, 9} }), p, true},
		{"has not Ins of p that p never takes", p, with(p, func(a *impl.Ia) { a.Ins = []int{0, 5, 9} }), false},
		{"takes it, but not behind a hidden step", mini(4, [3]int{0, 0, 1}, [3]int{0, 2, 3}, [3]int{1, 1, 2}, [3]int{1, 6, 0}, [3]int{2, 5, 0}), p, false},
		{"takes it behind a hidden step, too", mini(4, [3]int{0, 0, 1}, [3]int{0, 2, 3}, [3]int{1, 1, 2}, [3]int{1, 6, 0}, [3]int{2, 5, 0}, [3]int{3, 0, 1}), p, true},
		{"says it behind a hidden step", mini(4, [3]int{0, 0, 1}, [3]int{1, 2, 3}, [3]int{2, 5, 0}, [3]int{3, 1, 2}), p, true},
		{"says more behind a hidden step", mini(4, [3]int{0, 0, 1}, [3]int{0, 2, 3}, [3]int{1, 1, 2}, [3]int{1, 6, 0}, [3]int{2, 5, 0}, [3]int{3, 0, 1}, [3]int{3, 6, 0}), p, false},
		{"says it, and p behind a hidden step", mini(2, [3]int{0, 1, 1}), mini(3, [3]int{0, 2, 1}, [3]int{1, 1, 2}), true},
		{"takes it, and p behind a hidden step alone", mini(2, [3]int{0, 0, 1}), mini(3, [3]int{0, 2, 1}, [3]int{1, 0, 2}), true},
		{"takes nothing, and p behind a hidden step alone", mini(1), mini(3, [3]int{0, 2, 1}, [3]int{1, 0, 2}), true},
		{"takes nothing, and p here alone", mini(1), mini(2, [3]int{0, 0, 0}, [3]int{0, 2, 1}), true},
		{"takes nothing, and p on both sides of a hidden step", mini(1), mini(2, [3]int{0, 0, 0}, [3]int{0, 2, 1}, [3]int{1, 0, 0}), false},
		{"hidden steps alone, and none", mini(3, [3]int{0, 2, 1}, [3]int{1, 2, 2}, [3]int{2, 2, 0}), mini(1), true},
		{"none, and hidden steps alone", mini(1), mini(3, [3]int{0, 2, 1}, [3]int{1, 2, 2}, [3]int{2, 2, 0}), true},
		{"one way, and p may go two", mini(2, [3]int{0, 1, 1}, [3]int{1, 6, 0}), mini(3, [3]int{0, 1, 1}, [3]int{0, 1, 2}, [3]int{2, 6, 0}), true},
		{"it may go two ways, and p one", mini(3, [3]int{0, 1, 1}, [3]int{0, 1, 2}, [3]int{2, 6, 0}), mini(2, [3]int{0, 1, 1}, [3]int{1, 6, 0}), true},
		{"it may go two ways, of which p has one", mini(3, [3]int{0, 1, 1}, [3]int{0, 1, 2}, [3]int{1, 1, 0}, [3]int{2, 6, 0}), mini(2, [3]int{0, 1, 1}, [3]int{1, 6, 0}), false},
		{"what it says in one, p says in two", mini(2, [3]int{0, 1, 1}, [3]int{1, 1, 0}, [3]int{1, 6, 0}), mini(3, [3]int{0, 1, 1}, [3]int{0, 1, 2}, [3]int{1, 1, 0}, [3]int{2, 6, 0}), false},
		{"another Init", with(p, func(a *impl.Ia) { a.Init = 2 }), p, false},
		{"another Init of p", p, with(p, func(a *impl.Ia) { a.Init = 2 }), false},
		{"another Init of both", with(p, func(a *impl.Ia) { a.Init = 2 }), with(p, func(a *impl.Ia) { a.Init = 2 }), true},
		{"both numbered otherwise", mini(3, [3]int{0, 5, 2}, [3]int{1, 1, 0}, [3]int{1, 6, 2}, [3]int{2, 0, 1}), with(p, func(a *impl.Ia) { a.Init = 2 }), true},
	}
	for _, x := range tests {
		if got := impl.Refines(x.q, x.p); got != x.want {
			t.Errorf("%s: Refines %v", x.name, got)
		}
		checkRivals(t, x.q, x.p)
		checkRivals(t, x.p, x.q)
	}
}

// ring goes round with 3; in the loud states it may say 4, too, and stays.
func ring(states int, loud ...int) impl.Ia {
	a := impl.Ia{States: states, Outs: []int{3, 4}}
	for s := range states {
		a = withSteps(a, [3]int{s, 3, (s + 1) % states})
		if occurs(loud, s) {
			a = withSteps(a, [3]int{s, 4, s})
		}
	}
	return a
}

func TestSpoilerByHand(t *testing.T) {
	all := func(steps ...[3]int) impl.Ia { return mini(6, steps...) }
	tests := []struct {
		name  string
		q, p  impl.Ia
		round int // in which the pair of both Inits goes
		want  []int
	}{
		{"itself", whisperer(), whisperer(), 0, nil},
		{"it refines, other pairs go", mini(3, [3]int{0, 1, 1}), mini(2, [3]int{0, 1, 1}), 0, nil},
		{"without Letters", mini(1), changed(mini(1, [3]int{0, 9, 0}), func(a *impl.Ia) { a.Ins = []int{0, 5, 9} }), 0, nil},
		{"says more at once", mini(1, [3]int{0, 1, 0}), mini(1), 1, nil},
		{"says more at once, behind a hidden step", mini(2, [3]int{0, 2, 1}, [3]int{1, 1, 0}), mini(1), 1, nil},
		{"takes less at once", mini(1), mini(1, [3]int{0, 5, 0}), 1, nil},
		{"does what is right, too", mini(2, [3]int{0, 0, 1}, [3]int{0, 1, 0}, [3]int{1, 6, 1}), mini(2, [3]int{0, 0, 1}), 1, nil},
		{"says more behind what is said", all([3]int{0, 1, 1}, [3]int{1, 6, 1}), all([3]int{0, 1, 1}), 2, []int{1}},
		{"says more behind what is taken", all([3]int{0, 5, 1}, [3]int{1, 6, 1}), all([3]int{0, 5, 1}), 2, []int{5}},
		{"takes less behind what is said", all([3]int{0, 6, 1}), all([3]int{0, 6, 1}, [3]int{1, 0, 1}), 2, []int{6}},
		{"takes less behind what is taken", all([3]int{0, 0, 1}), all([3]int{0, 0, 1}, [3]int{1, 0, 1}), 2, []int{0}},
		{"behind a hidden step of q", all([3]int{0, 2, 3}, [3]int{1, 6, 1}, [3]int{3, 1, 1}), all([3]int{0, 1, 1}), 2, []int{1}},
		{"behind a hidden step of p", all([3]int{0, 1, 1}, [3]int{1, 6, 1}), all([3]int{0, 2, 3}, [3]int{3, 1, 1}), 2, []int{1}},
		{"in round 3", row(5), row(3), 3, []int{3, 3}},
		{"in round 39", row(40), row(39), 39, slices.Repeat([]int{3}, 38)},
		{"all actions would do", all([3]int{0, 0, 1}, [3]int{0, 1, 1}, [3]int{0, 5, 1}, [3]int{0, 6, 1}, [3]int{1, 6, 1}), all([3]int{0, 0, 1}, [3]int{0, 1, 1}, [3]int{0, 5, 1}, [3]int{0, 6, 1}), 2, []int{0}},
		{"one that is said, ahead of one that is taken", all([3]int{0, 1, 1}, [3]int{0, 5, 1}, [3]int{0, 6, 1}, [3]int{1, 6, 1}), all([3]int{0, 1, 1}, [3]int{0, 5, 1}, [3]int{0, 6, 1}), 2, []int{1}},
		{"one that is taken, ahead of one that is said", all([3]int{0, 5, 1}, [3]int{0, 6, 1}, [3]int{1, 6, 1}), all([3]int{0, 5, 1}, [3]int{0, 6, 1}), 2, []int{5}},
		{"one that u does not take is not asked for", all([3]int{0, 0, 1}, [3]int{0, 5, 1}, [3]int{1, 6, 1}), all([3]int{0, 5, 1}), 2, []int{5}},
		{"one that u does not take surely is not asked for", all([3]int{0, 0, 1}, [3]int{0, 5, 1}, [3]int{1, 6, 1}), all([3]int{0, 0, 1}, [3]int{0, 2, 3}, [3]int{0, 5, 1}, [3]int{3, 5, 1}), 2, []int{5}},
		{"one that v does not say is not asked for", all([3]int{0, 6, 1}, [3]int{1, 6, 1}), all([3]int{0, 1, 1}, [3]int{0, 6, 1}), 2, []int{6}},
		{"the first one leads nowhere bad", all([3]int{0, 0, 2}, [3]int{0, 5, 1}, [3]int{1, 6, 1}), all([3]int{0, 0, 2}, [3]int{0, 5, 1}), 2, []int{5}},
		// By 0 it comes to a pair that goes in round 2: that is not yet gone ahead of round 2.
		{"the first one leads to what goes later", all([3]int{0, 0, 2}, [3]int{0, 5, 1}, [3]int{1, 6, 1}, [3]int{2, 0, 1}), all([3]int{0, 0, 2}, [3]int{0, 5, 1}, [3]int{2, 0, 1}), 2, []int{5}},
		{"the first one leads to what goes sooner", all([3]int{0, 0, 2}, [3]int{0, 5, 3}, [3]int{1, 6, 1}, [3]int{2, 1, 1}, [3]int{3, 6, 4}, [3]int{4, 6, 1}), all([3]int{0, 0, 2}, [3]int{0, 5, 3}, [3]int{2, 1, 1}, [3]int{3, 6, 4}, [3]int{4, 6, 1}), 3, []int{0, 1}},
		{"the second one leads to what goes sooner", all([3]int{0, 0, 3}, [3]int{0, 5, 2}, [3]int{1, 6, 1}, [3]int{2, 1, 1}, [3]int{3, 6, 4}, [3]int{4, 6, 1}), all([3]int{0, 0, 3}, [3]int{0, 5, 2}, [3]int{2, 1, 1}, [3]int{3, 6, 4}, [3]int{4, 6, 1}), 3, []int{5, 1}},
		// Of states 1 and 2 of q, both go with state 1 of p, the one by 0, the other one by 5.
		{"two states of q would do", all([3]int{0, 1, 1}, [3]int{0, 1, 2}, [3]int{1, 0, 3}, [3]int{1, 5, 4}, [3]int{2, 0, 4}, [3]int{2, 5, 3}, [3]int{3, 6, 3}), all([3]int{0, 1, 1}, [3]int{1, 0, 2}, [3]int{1, 5, 2}), 3, []int{1, 0}},
		{"two states of q would do, turned", all([3]int{0, 1, 1}, [3]int{0, 1, 2}, [3]int{1, 0, 4}, [3]int{1, 5, 3}, [3]int{2, 0, 3}, [3]int{2, 5, 4}, [3]int{3, 6, 3}), all([3]int{0, 1, 1}, [3]int{1, 0, 2}, [3]int{1, 5, 2}), 3, []int{1, 5}},
		{"the first state of q has a pair", all([3]int{0, 1, 1}, [3]int{0, 1, 2}, [3]int{1, 0, 4}, [3]int{1, 5, 4}, [3]int{2, 0, 4}, [3]int{2, 5, 3}, [3]int{3, 6, 3}), all([3]int{0, 1, 1}, [3]int{1, 0, 2}, [3]int{1, 5, 2}), 3, []int{1, 5}},
		{"the first state of q goes later", all([3]int{0, 1, 1}, [3]int{0, 1, 2}, [3]int{1, 0, 2}, [3]int{1, 5, 2}, [3]int{2, 0, 2}, [3]int{2, 5, 3}, [3]int{3, 6, 3}), all([3]int{0, 1, 1}, [3]int{1, 0, 1}, [3]int{1, 5, 1}), 3, []int{1, 5}},
		// By 1, p may come to 1 or to 2: it goes on with 1, whichever of both would last longer.
		{"the first state of p goes at once", all([3]int{0, 1, 1}, [3]int{1, 5, 3}, [3]int{1, 6, 3}, [3]int{3, 6, 3}), all([3]int{0, 1, 1}, [3]int{0, 1, 2}, [3]int{2, 5, 3}, [3]int{2, 6, 3}), 3, []int{1}},
		{"the second state of p goes at once", all([3]int{0, 1, 1}, [3]int{1, 5, 3}, [3]int{1, 6, 3}, [3]int{3, 6, 3}), all([3]int{0, 1, 1}, [3]int{0, 1, 2}, [3]int{1, 5, 3}, [3]int{1, 6, 3}), 3, []int{1, 5}},
		{"u comes nowhere with it, behind two more", all([3]int{0, 0, 1}, [3]int{1, 5, 2}, [3]int{2, 6, 3}), all([3]int{0, 0, 1}, [3]int{1, 5, 2}), 3, []int{0, 5}},
		{"u comes nowhere with it at once", all([3]int{0, 6, 3}), all([3]int{1, 6, 2}), 1, nil},
		{"other Inits", changed(row(5), func(a *impl.Ia) { a.Init = 2 }), changed(row(5), func(a *impl.Ia) { a.Init = 3 }), 2, []int{3}},
		{"rings", ring(4, 3), ring(3, 0, 1), 12, slices.Repeat([]int{3}, 11)},
		{"greater rings", ring(8, 3), ring(5, 0, 2, 3, 4), 12, slices.Repeat([]int{3}, 11)},
	}
	for _, x := range tests {
		if got := impl.Spoiler(x.q, x.p); !slices.Equal(got, x.want) {
			t.Errorf("%s: %v, want %v", x.name, got, x.want)
		}
		w := wantedRivals(wantedWatcher(x.q), wantedWatcher(x.p))
		w.check(t)
		if w.round() != x.round {
			t.Errorf("%s: the pair of both Inits goes in round %d, want %d", x.name, w.round(), x.round)
		}
	}
}

// The pair of both Inits goes in the last of 1560 rounds, each of which takes one pair away.
func TestRefineOfLongRings(t *testing.T) {
	q, p := ring(40, 39), ring(39, upTo(38)...)
	if got := impl.Spoiler(q, p); !slices.Equal(got, slices.Repeat([]int{3}, 1559)) {
		t.Errorf("%d actions: %v", len(got), got)
	}
	if got := impl.Sim(q, p); len(got) != 0 || impl.Refines(q, p) {
		t.Errorf("%d pairs", len(got))
	}
	// Where it says 4 in no state at all, all pairs lean on one another.
	q = ring(40)
	if got := impl.Sim(q, p); len(got) != 1560 || got[0] != (impl.Pair{}) || got[1559] != (impl.Pair{A: 39, B: 38}) || len(impl.Spoiler(q, p)) != 0 {
		t.Errorf("%d pairs", len(got))
	}
}

func TestRefineOfRowsOf40(t *testing.T) {
	sim := impl.Sim(row(40), row(40))
	if len(sim) != 820 || !impl.Refines(row(40), row(40)) {
		t.Fatalf("%d pairs", len(sim))
	}
	for n := 1; n <= 40; n += 3 {
		for m := 2; m <= 40; m += 19 {
			q, p := row(n), row(m)
			if got := impl.Refines(q, p); got != (n <= m) {
				t.Errorf("%d and %d in a row: Refines %v", n, m, got)
			}
			if got := impl.Spoiler(q, p); n > m && len(got) != m-1 || n <= m && len(got) != 0 {
				t.Errorf("%d and %d in a row: Spoiler %v", n, m, got)
			}
			wantedRivals(wantedWatcher(q), wantedWatcher(p)).check(t)
		}
	}
	w := wantedRivals(wantedWatcher(row(40)), wantedWatcher(row(40)))
	for _, x := range sim {
		w.checkHolds(t, x.A, x.B, sim)
	}
	w.checkHolds(t, 1, 0, sim)
	w.checkHolds(t, 40, 0, sim)
	w.checkHolds(t, 0, 40, sim)
}

// Each of all actions leads to where two part, whether it is taken or said.
func TestRefineWithEachAction(t *testing.T) {
	for act := range 12 {
		other := (act + 5) % 12
		wrong := withSteps(impl.Ia{States: 2, Init: 1}, [3]int{0, other, 0}, [3]int{1, act, 0})
		right := withSteps(impl.Ia{States: 2}, [3]int{0, act, 1})
		for _, said := range []bool{false, true} {
			q, p := cloneIa(wrong), cloneIa(right)
			if q.Outs, p.Outs = []int{other}, []int{other}; said {
				q.Outs = impl.SetJoin(q.Outs, []int{act})
				p.Outs = q.Outs
			} else {
				q.Ins, p.Ins = []int{act}, []int{act}
			}
			if got := impl.Spoiler(q, p); !slices.Equal(got, []int{act}) {
				t.Errorf("action %d: Spoiler %v", act, got)
			}
			if got := impl.Sim(q, p); slices.Contains(got, impl.Pair{A: 1, B: 0}) || slices.Contains(got, impl.Pair{A: 0, B: 1}) {
				t.Errorf("action %d: Sim %v", act, got)
			}
			checkRivals(t, q, p)
			checkRivals(t, p, q)
		}
	}
}

// checkDrawnHolds asks Holds of some pairs in all of Sim, in that but one pair, and in one that is drawn.
func (w *rivals) checkDrawnHolds(t *testing.T, d *draws, count int) {
	t.Helper()
	sim, all := w.sim(), w.all()
	for range count {
		v, u := d.below(w.q.a.States+1), d.below(w.p.a.States+1)
		less := slices.DeleteFunc(slices.Clone(sim), func(impl.Pair) bool { return d.below(2*len(sim)) == 0 })
		some := slices.DeleteFunc(slices.Clone(all), func(impl.Pair) bool { return d.below(3) == 0 })
		for _, rel := range [][]impl.Pair{sim, less, some} {
			w.checkHolds(t, v, u, rel)
		}
	}
}

// relationsOf are all sets of pairs of two states.
func relationsOf() [][]impl.Pair {
	var all [][]impl.Pair
	for mask := range 16 {
		var rel []impl.Pair
		for i := range 4 {
			if mask>>i&1 == 1 {
				rel = append(rel, impl.Pair{A: i / 2, B: i % 2})
			}
		}
		all = append(all, rel)
	}
	return all
}

// checkMost is asked of the program alone: Sim has all pairs of all relations of which each pair Holds with all of them, and is one.
func checkMost(t *testing.T, q impl.Ia, p impl.Ia) {
	t.Helper()
	holds := func(rel []impl.Pair) bool {
		return !slices.ContainsFunc(rel, func(x impl.Pair) bool { return !impl.Holds(q, p, x.A, x.B, rel) })
	}
	sim := impl.Sim(q, p)
	if !holds(sim) {
		t.Fatalf("of %+v and %+v: not all of Sim %v Holds", q, p, sim)
	}
	for _, rel := range relationsOf() {
		more := slices.ContainsFunc(rel, func(x impl.Pair) bool { return !slices.Contains(sim, x) })
		if more && holds(rel) {
			t.Fatalf("of %+v and %+v: all of %v Holds, but Sim is %v", q, p, rel, sim)
		}
	}
}

// Over all two automata of two states that take and say one action each, and nothing hidden.
func TestRefineOfAllSmallTalkers(t *testing.T) {
	var all []watcher
	for _, a := range smallTalkers(0, 1) {
		all = append(all, wantedWatcher(a))
	}
	d := draws(71)
	for i, q := range all {
		for j, p := range all {
			q.a.Init, p.a.Init = (i+j)%2, (i/2+j/3)%2
			w := wantedRivals(q, p)
			w.check(t)
			w.checkDrawnHolds(t, &d, 1)
			if (i+j)%16 == 0 {
				checkMost(t, q.a, p.a)
			}
		}
	}
}

// Over automata of two states and an action of each kind: each with some others.
func TestRefineOfSmallAutomata(t *testing.T) {
	var all []watcher
	for _, a := range smallAutomata() {
		all = append(all, wantedWatcher(a))
	}
	d := draws(72)
	refines, not, spoilt := 0, 0, 0
	for _, q := range all {
		for range 8 {
			p := all[d.below(len(all))]
			w := wantedRivals(q, p)
			w.check(t)
			w.checkDrawnHolds(t, &d, 1)
			switch {
			case w.refines():
				refines++
			case w.round() == 1:
				not++
			default:
				spoilt++
			}
			if d.below(16) == 0 {
				checkMost(t, q.a, p.a)
			}
		}
	}
	if min(refines, not, spoilt) < 1000 {
		t.Fatalf("%d refine, %d go at once, %d later: too few of one kind to tell", refines, not, spoilt)
	}
}

// doubled has a second state for each state, and of two alike each step leads to either.
func doubled(d *draws, a impl.Ia) impl.Ia {
	a = cloneIa(a)
	if 2*a.States > 40 || 2*len(a.Steps) > 400 {
		return a
	}
	for _, x := range slices.Clone(a.Steps) {
		a.Steps = append(a.Steps, impl.Step{From: x.From + a.States, Act: x.Act, To: x.To + d.below(2)*a.States})
	}
	a.States *= 2
	return righted(a)
}

// drop takes one of a list away, if it has any.
func drop[T any](d *draws, list []T) []T {
	if len(list) == 0 {
		return list
	}
	place := d.below(len(list))
	return slices.Delete(list, place, place+1)
}

// drawnRival is made of p by a few changes, of which many let it stand in the place of p.
func drawnRival(d *draws, p impl.Ia) impl.Ia {
	q := cloneIa(p)
	if d.below(3) == 0 {
		q = doubled(d, p)
	}
	done := func(kind string) []impl.Step {
		return slices.DeleteFunc(slices.Clone(q.Steps), func(x impl.Step) bool { return kindOf(q, x.Act) != kind })
	}
	for range d.below(4) {
		from, to := d.below(q.States), d.below(q.States)
		switch free := impl.SetLess(upTo(12), impl.ActsOf(q)); d.below(8) {
		case 0, 1: // says less
			q.Steps = slices.Concat(done("in"), drop(d, done("out")), done("hid"))
		case 2: // takes more
			if len(q.Ins) > 0 {
				q.Steps = append(q.Steps, impl.Step{From: from, Act: q.Ins[d.below(len(q.Ins))], To: to})
			}
		case 3: // takes what p does not have
			if len(free) > 0 {
				act := free[d.below(len(free))]
				q.Ins = impl.SetJoin(q.Ins, []int{act})
				q.Steps = append(q.Steps, impl.Step{From: from, Act: act, To: to})
			}
		case 4: // has less to say
			q.Outs = drop(d, q.Outs)
			q.Steps = slices.DeleteFunc(q.Steps, func(x impl.Step) bool { return kindOf(q, x.Act) == "" })
		case 5: // does more unseen
			if hids := slices.Concat(q.Hids, free); len(hids) > 0 {
				act := hids[d.below(len(hids))]
				q.Hids = impl.SetJoin(q.Hids, []int{act})
				q.Steps = append(q.Steps, impl.Step{From: from, Act: act, To: to})
			}
		case 6: // goes elsewhere
			if len(q.Steps) > 0 {
				q.Steps[d.below(len(q.Steps))].To = to
			}
		case 7: // takes less
			q.Steps = slices.Concat(drop(d, done("in")), done("out"), done("hid"))
		}
		q = righted(q)
	}
	return q
}

func TestRefineOfDrawnRivals(t *testing.T) {
	d := draws(73)
	count := map[string]int{}
	for i := range 1500 {
		p := drawnComponent(&d, 1+d.below(7), 2+d.below(12))
		q := drawnRival(&d, p)
		if i%7 == 0 {
			q = drawnComponent(&d, 1+d.below(7), 2+d.below(12))
		}
		if !wantedOk(q) {
			t.Fatalf("drawn, but not IaOk: %+v", q)
		}
		w := wantedRivals(wantedWatcher(q), wantedWatcher(p))
		w.check(t)
		w.checkDrawnHolds(t, &d, 5)
		if i%10 == 0 && w.letters {
			checkSim(t, q, p)
		}
		switch {
		case !w.letters:
			count["no Letters"]++
		case w.refines() && !sameIa(q, p):
			count["refines"]++
		case w.refines():
			count["the same"]++
		default:
			count[fmt.Sprint("goes in round ", min(w.round(), 4))]++
		}
	}
	for _, kind := range []string{"no Letters", "refines", "the same", "goes in round 1", "goes in round 2", "goes in round 3", "goes in round 4"} {
		if count[kind] < 10 {
			t.Fatalf("%v: too few of %q to tell", count, kind)
		}
	}
}

func TestRefineOfDrawnAutomataOf40States(t *testing.T) {
	d := draws(74)
	later := 0
	for i := range 30 {
		p := drawnComponent(&d, 40, 80)
		if i%3 == 0 {
			p = drawnComponent(&d, 20, 30)
		}
		q := drawnRival(&d, p)
		if i%3 == 0 {
			q = doubled(&d, q)
		}
		w := wantedRivals(wantedWatcher(q), wantedWatcher(p))
		w.check(t)
		w.checkDrawnHolds(t, &d, 3)
		if w.letters && w.rounds() > 1 {
			later++
		}
	}
	if later < 10 {
		t.Fatalf("%d have more than one round: too few to tell", later)
	}
	for name, a := range goodAutomata() {
		for other, b := range goodAutomata() {
			if a.States+b.States > 60 && a.States != b.States {
				continue
			}
			w := wantedRivals(wantedWatcher(a), wantedWatcher(b))
			w.check(t)
			if name == other {
				w.checkDrawnHolds(t, new(draws), 2)
			}
		}
	}
}

func TestRefineOfSpoiltAutomata(t *testing.T) {
	d := draws(75)
	wrong := 0
	for i := range 1500 {
		p := drawnComponent(&d, 1+d.below(5), 1+d.below(8))
		q := drawnRival(&d, p)
		if i%2 == 0 {
			spoil(&d, &q)
		} else {
			spoil(&d, &p)
		}
		if !wantedOk(q) || !wantedOk(p) {
			wrong++
			checkNoLetters(t, fmt.Sprintf("%+v and %+v", q, p), q, p)
		} else {
			wantedRivals(wantedWatcher(q), wantedWatcher(p)).check(t)
		}
	}
	if wrong < 300 || wrong > 1400 {
		t.Fatalf("%d of 1500 are wrong: too few of one kind to tell", wrong)
	}
}

// Promise 7: an automaton refines itself, each state stands in its own place.
func checkItself(t *testing.T, a impl.Ia) {
	t.Helper()
	sim := impl.Sim(a, a)
	for s := range a.States {
		if !slices.Contains(sim, impl.Pair{A: s, B: s}) {
			t.Fatalf("%+v: Sim with itself is %v", a, sim)
		}
	}
	trimmed := impl.Trimmed(a)
	if !impl.Refines(a, a) || len(impl.Spoiler(a, a)) != 0 || !impl.Refines(trimmed, a) || !impl.Refines(a, trimmed) {
		t.Fatalf("%+v does not refine itself", a)
	}
}

func TestAnAutomatonRefinesItself(t *testing.T) {
	for _, a := range goodAutomata() {
		checkItself(t, a)
	}
	for _, a := range append(smallAutomata(), whisperer(), speaker(), counter(39), patient(15), loud(11), ring(40, upTo(30)...)) {
		checkItself(t, a)
	}
	d := draws(76)
	for range 200 {
		a := drawnIa(&d, 1+d.below(9), d.below(30))
		checkItself(t, a)
		both := doubled(&d, a)
		if !impl.Refines(both, a) || !impl.Refines(a, both) {
			t.Fatalf("%+v and %+v do not refine one another", both, a)
		}
	}
}

// checkGoesOn is promise 7 for all three of these: who refines what refines a third refines the third.
func checkGoesOn(t *testing.T, all []impl.Ia) int {
	t.Helper()
	refines := make([][]bool, len(all))
	for i, q := range all {
		for _, p := range all {
			refines[i] = append(refines[i], impl.Refines(q, p))
		}
	}
	told := 0
	for i := range all {
		for j := range all {
			for k := range all {
				if i == j || j == k || !refines[i][j] || !refines[j][k] {
					continue
				}
				told++
				if !refines[i][k] {
					t.Fatalf("%+v refines %+v, and that %+v, but the first does not refine the third", all[i], all[j], all[k])
				}
			}
		}
	}
	return told
}

func TestWhoRefinesWhatRefinesAThird(t *testing.T) {
	if told := checkGoesOn(t, smallTalkers(0, 1)); told < 10000 {
		t.Fatalf("%d of them: too few to tell", told)
	}
	d := draws(77)
	all, some := smallAutomata(), []impl.Ia{}
	for range 120 {
		some = append(some, all[d.below(len(all))])
	}
	if told := checkGoesOn(t, some); told < 10000 {
		t.Fatalf("%d of them: too few to tell", told)
	}
	told := 0
	for range 60 {
		family := []impl.Ia{drawnComponent(&d, 1+d.below(6), 2+d.below(8))}
		for range 12 {
			family = append(family, drawnRival(&d, family[d.below(len(family))]))
		}
		told += checkGoesOn(t, family)
	}
	if told < 2000 {
		t.Fatalf("%d of families: too few to tell", told)
	}
}

// takesNothingNew: what e says to q, p takes, too.
func takesNothingNew(q impl.Ia, p impl.Ia, e impl.Ia) bool {
	for _, act := range q.Ins {
		if occurs(e.Outs, act) && !occurs(p.Ins, act) {
			return false
		}
	}
	return true
}

// checkInThePlace is promise 7 for a third: where q refines p, takes of e nothing new, and p goes together with e, q does, too.
// It tells which of these is not so, or how it came out.
func checkInThePlace(t *testing.T, q impl.Ia, p impl.Ia, e impl.Ia) string {
	t.Helper()
	_, isQ := impl.Product(q, e)
	_, isP := impl.Product(p, e)
	refines, together := impl.Refines(q, p), impl.Compatible(q, e)
	switch {
	case !isQ || !isP:
		return "no Product"
	case !impl.Compatible(p, e):
		return "p clashes"
	case !refines && !together:
		return "does not refine, and clashes"
	case !refines:
		return "does not refine, and does not clash"
	case !takesNothingNew(q, p, e) && !together:
		return "takes something new, and clashes"
	case !takesNothingNew(q, p, e):
		return "takes something new, and does not clash"
	case !together:
		t.Fatalf("%+v refines %+v, which goes together with %+v; but the first does not", q, p, e)
	}
	return "goes together"
}

func TestInThePlaceByHand(t *testing.T) {
	p := withSteps(impl.Ia{States: 2, Ins: []int{0}, Outs: []int{1}}, [3]int{0, 0, 1}, [3]int{1, 1, 0})
	e := withSteps(impl.Ia{States: 2, Ins: []int{1}, Outs: []int{0}}, [3]int{0, 0, 1}, [3]int{1, 1, 0})
	says := func(a impl.Ia, act int) impl.Ia {
		a = withStep(a, impl.Step{Act: act})
		a.Outs = impl.SetJoin(a.Outs, []int{act})
		return a
	}
	tests := []struct {
		name    string
		q, p, e impl.Ia
		want    string
	}{
		{"itself", p, p, e, "goes together"},
		{"one that says nothing", withSteps(impl.Ia{States: 2, Ins: []int{0}}, [3]int{0, 0, 1}), p, e, "goes together"},
		{"one that takes more", withStep(p, impl.Step{From: 1, Act: 0, To: 1}), p, e, "goes together"},
		{"one that says more", says(p, 1), p, e, "does not refine, and clashes"},
		{"one that takes nothing", impl.Ia{States: 1, Ins: []int{0}}, p, e, "does not refine, and clashes"},
		{"one that goes elsewhere", withSteps(impl.Ia{States: 2, Ins: []int{0}}, [3]int{0, 0, 0}), p, e, "goes together"},
		{"with one that says too much", p, p, withStep(e, impl.Step{From: 1, Act: 0, To: 1}), "p clashes"},
		{"with one that does not fit", p, p, p, "no Product"},
		// Action 9 the environment says to nobody, or to q alone.
		{"takes something new", changed(p, func(a *impl.Ia) { a.Ins = []int{0, 9} }), p, says(e, 9), "takes something new, and clashes"},
		{"takes something new, always", withSteps(impl.Ia{States: 1, Ins: []int{0, 9}}, [3]int{0, 0, 0}, [3]int{0, 9, 0}), p, says(e, 9), "takes something new, and does not clash"},
		{"takes something new of nobody", changed(p, func(a *impl.Ia) { a.Ins = []int{0, 9} }), p, e, "goes together"},
	}
	for _, x := range tests {
		if got := checkInThePlace(t, x.q, x.p, x.e); got != x.want {
			t.Errorf("%s: %s", x.name, got)
		}
	}
}

// Over all q and p of two states that take and say one action each, with some of those that share both, or the one that is said alone.
func TestInThePlaceOfAllSmallTalkers(t *testing.T) {
	d := draws(78)
	talkers, thirds := smallTalkers(0, 1), append(smallTalkers(1, 0), smallTalkers(1, 2)...)
	count := map[string]int{}
	for i, q := range talkers {
		for j, p := range talkers {
			q.Init, p.Init = (i+j)%2, (i/2+j/3)%2
			e := thirds[d.below(len(thirds))]
			e.Init = d.below(2)
			count[checkInThePlace(t, q, p, e)]++
		}
	}
	if count["goes together"] < 1000 || count["does not refine, and clashes"] < 300 {
		t.Fatalf("%v: too few to tell", count)
	}
}

// drawnThird mostly goes together with p; it may leave a matter of p's to others, or have one of its own.
func drawnThird(d *draws, p impl.Ia) impl.Ia {
	env, ok := impl.EnvOf(p)
	if !ok {
		return impl.Ia{States: 1}
	}
	e := drawnEnvironment(d, p, env)
	free := impl.SetLess(upTo(12), impl.SetJoin(impl.ActsOf(p), impl.ActsOf(e)))
	switch kind := d.below(4); {
	case kind == 0:
		e.Ins = drop(d, e.Ins)
	case kind == 1:
		e.Outs = drop(d, e.Outs)
	case kind == 2 && len(free) > 0:
		act := free[d.below(len(free))]
		e.Outs = impl.SetJoin(e.Outs, []int{act})
		e.Steps = append(e.Steps, impl.Step{From: d.below(e.States), Act: act, To: d.below(e.States)})
	}
	e.Steps = slices.DeleteFunc(e.Steps, func(x impl.Step) bool { return kindOf(e, x.Act) == "" })
	return righted(e)
}

func TestInThePlaceOfDrawnRivals(t *testing.T) {
	d := draws(79)
	count := map[string]int{}
	for range 6000 {
		p := drawnComponent(&d, 1+d.below(4), 1+d.below(6))
		q, e := drawnRival(&d, p), drawnThird(&d, p)
		how := checkInThePlace(t, q, p, e)
		if how == "goes together" && sameIa(q, p) {
			how = "the same"
		}
		count[how]++
	}
	for _, kind := range []string{"no Product", "p clashes", "the same", "goes together", "does not refine, and clashes", "takes something new, and clashes"} {
		if count[kind] < 20 {
			t.Fatalf("%v: too few of %q to tell", count, kind)
		}
	}
}

// goesWrong follows all traces of what p takes surely and q says, till in one q takes less or says more than p, or all are known.
func goesWrong(q impl.Ia, p impl.Ia) bool {
	type end struct{ ofQ, ofP []int }
	ends := []end{{impl.Closure(q, q.Init), impl.Closure(p, p.Init)}}
	for i := 0; i < len(ends); i++ {
		x := ends[i]
		taken, said := impl.MixTaken(p, x.ofP), impl.MixSaid(q, x.ofQ)
		if !impl.SetIn(taken, impl.MixTaken(q, x.ofQ)) || !impl.SetIn(said, impl.MixSaid(p, x.ofP)) {
			return true
		}
		for _, act := range impl.SetJoin(taken, said) {
			next := end{impl.Runs(q, x.ofQ, []int{act}), impl.Runs(p, x.ofP, []int{act})}
			known := func(y end) bool { return slices.Equal(y.ofQ, next.ofQ) && slices.Equal(y.ofP, next.ofP) }
			if !slices.ContainsFunc(ends, known) {
				ends = append(ends, next)
			}
		}
	}
	return false
}

// single tells whether p is in one state at a time, for all that one has seen: then traces tell all.
func single(p impl.Ia) bool {
	for i, x := range p.Steps {
		if occurs(p.Hids, x.Act) || i > 0 && p.Steps[i-1].From == x.From && p.Steps[i-1].Act == x.Act {
			return false
		}
	}
	return true
}

// checkNoLess is what follows from the chapter: who refines takes no less, and says no more, whatever has been done.
func checkNoLess(t *testing.T, q impl.Ia, p impl.Ia) string {
	t.Helper()
	refines := impl.Refines(q, p)
	wrong := impl.Letters(q, p) && goesWrong(q, p)
	if refines && wrong {
		t.Fatalf("%+v refines %+v, but behind a trace it takes less or says more", q, p)
	}
	if impl.Letters(q, p) && single(p) && refines == wrong {
		t.Fatalf("of %+v and %+v: Refines %v, but by their traces it is %v", q, p, refines, !wrong)
	}
	if refines || !wrong || !single(q) || !single(p) {
		return fmt.Sprint("refines: ", refines)
	}
	// Where both are single, what the spoiler says is such a trace, and of these none is shorter.
	acts := impl.Spoiler(q, p)
	for n := range len(acts) + 1 {
		v, u := impl.Runs(q, []int{q.Init}, acts[:n]), impl.Runs(p, []int{p.Init}, acts[:n])
		more := len(v) != 1 || len(u) != 1 || !impl.SetIn(impl.SureTaken(p, u[0]), impl.SureTaken(q, v[0])) || !impl.SetIn(impl.MaySay(q, v[0]), impl.MaySay(p, u[0]))
		if more != (n == len(acts)) {
			t.Fatalf("of %+v and %+v: behind %d actions of Spoiler %v, they come to %v and %v", q, p, n, acts, v, u)
		}
	}
	return fmt.Sprint("spoilt by ", min(len(acts), 3))
}

func TestWhoRefinesTakesNoLess(t *testing.T) {
	d := draws(80)
	count := map[string]int{}
	for i := range 3000 {
		p := drawnComponent(&d, 1+d.below(5), 1+d.below(8))
		if i%2 == 0 {
			p.Steps = slices.CompactFunc(p.Steps, func(x, y impl.Step) bool { return x.From == y.From && x.Act == y.Act })
			p.Steps = slices.DeleteFunc(p.Steps, func(x impl.Step) bool { return kindOf(p, x.Act) == "hid" })
		}
		count[checkNoLess(t, drawnRival(&d, p), p)]++
	}
	for i, q := range smallTalkers(0, 1) {
		for j, p := range smallTalkers(0, 1) {
			q.Init, p.Init = (i+j)%2, (i/2+j/3)%2
			checkNoLess(t, q, p)
		}
	}
	for _, kind := range []string{"refines: true", "refines: false", "spoilt by 0", "spoilt by 1", "spoilt by 2", "spoilt by 3"} {
		if count[kind] < 20 {
			t.Fatalf("%v: too few of %q to tell", count, kind)
		}
	}
}

var sentinelPair = impl.Pair{A: sentinel, B: sentinel}

// rivalsForMemory has two of each outcome: that refine, do not at once or later, have no Letters, are not IaOk.
func rivalsForMemory() map[string][2]impl.Ia {
	all := map[string][2]impl.Ia{
		"whisperer, itself":   {whisperer(), whisperer()},
		"rows, one refines":   {row(3), row(5)},
		"rows, one does not":  {row(5), row(3)},
		"rings":               {ring(4, 3), ring(3, 0, 1)},
		"at once":             {mini(1, [3]int{0, 1, 0}), mini(1)},
		"no Letters":          {mini(1), talker()},
		"one is not right":    {{States: 1, Ins: []int{2, 1}}, {States: 1}},
		"the other is not":    {{States: 1}, {States: 1, Steps: []impl.Step{{From: 0, Act: 3, To: 0}}}},
		"empty lists":         {{States: 1, Ins: []int{}, Outs: []int{}, Hids: []int{}, Steps: []impl.Step{}}, {States: 1, Ins: []int{}}},
		"sets without a step": {{States: 2, Ins: []int{1, 4}, Outs: []int{0}, Hids: []int{2, 7}}, {States: 2, Ins: []int{1}, Outs: []int{0, 6}}},
	}
	d := draws(81)
	for i := range 60 {
		p := drawnComponent(&d, 1+d.below(6), 8)
		all[fmt.Sprint("drawn ", i)] = [2]impl.Ia{drawnRival(&d, p), p}
	}
	return all
}

func TestRivalsAreLeftAsTheyAre(t *testing.T) {
	for name, was := range rivalsForMemory() {
		wasRel := mingled(impl.Sim(was[0], was[1]))
		q, p, rel := roomyIa(was[0]), roomyIa(was[1]), roomyOf(wasRel, sentinelPair)
		check := func(what string) {
			t.Helper()
			checkIaUntouched(t, what, q, was[0])
			checkIaUntouched(t, what, p, was[1])
			checkUntouchedOf(t, what, rel, wasRel, sentinelPair)
		}
		impl.Letters(q, p)
		impl.Refines(q, p)
		for v := range 3 {
			impl.Holds(q, p, v, 0, rel)
		}
		sim, spoiler := impl.Sim(q, p), impl.Spoiler(q, p)
		check(name)
		scribbleOf(sim, impl.Pair{A: overwritten, B: overwritten})
		scribble(spoiler)
		check(name + ", answers written over")
	}
}

func TestSimSharesNoMemoryWithArguments(t *testing.T) {
	for name, was := range rivalsForMemory() {
		q, p := roomyIa(was[0]), roomyIa(was[1])
		sim, spoiler := impl.Sim(q, p), impl.Spoiler(q, p)
		wantSim, wantSpoiler := slices.Clone(sim), slices.Clone(spoiler)
		scribbleIa(q)
		scribbleIa(p)
		if !slices.Equal(sim, wantSim) || !slices.Equal(spoiler, wantSpoiler) {
			t.Fatalf("%s: an answer shares memory with an argument", name)
		}
	}
}

// No call keeps anything: an answer that is written over is not told again.
func TestNoSimIsKeptForAnother(t *testing.T) {
	for _, x := range rivalsForMemory() {
		w := wantedRivals(wantedWatcher(x[0]), wantedWatcher(x[1]))
		for range 3 {
			w.check(t)
			scribbleOf(impl.Sim(x[0], x[1]), impl.Pair{A: overwritten, B: overwritten})
			scribble(impl.Spoiler(x[0], x[1]))
		}
	}
}

// The lists of both may lie in one piece of memory, or be the same ones; rel may be an answer.
func TestRefineOfListsInOnePiece(t *testing.T) {
	was := []int{0, 5, 1, 11, 2, 7}
	piece := slices.Clone(was)
	p := whisperer()
	p.Ins, p.Outs, p.Hids = piece[:2], piece[2:4], piece[4:]
	q := p
	q.Outs, q.Hids, q.Steps = piece[3:4], piece[2:3], slices.DeleteFunc(whisperer().Steps, func(x impl.Step) bool { return x.Act == 2 || x.Act == 7 })
	for _, x := range [][2]impl.Ia{{p, p}, {q, q}, {q, p}, {p, q}} {
		w := checkRivals(t, x[0], x[1])
		sim := impl.Sim(x[0], x[1])
		for _, y := range w.all() {
			w.checkHolds(t, y.A, y.B, sim)
		}
		if !slices.Equal(sim, w.sim()) {
			t.Fatal("rel was written into", sim)
		}
		scribble(impl.Spoiler(x[0], x[1]))
	}
	if !slices.Equal(piece, was) || !sameIa(p, whisperer()) {
		t.Fatal("the argument was written into", piece)
	}
}

func TestRefineDoesNotReadSpareRoom(t *testing.T) {
	q := withSteps(impl.Ia{States: 2, Ins: []int{0, 4}, Outs: []int{1, 5}, Hids: []int{2, 7}}, [3]int{0, 1, 1}, [3]int{1, 5, 0})
	p := withSteps(impl.Ia{States: 2, Ins: []int{0, 6}, Outs: []int{1, 8}, Hids: []int{3, 9}}, [3]int{0, 1, 1}, [3]int{1, 0, 0})
	checkNoLetters(t, "with what is to lie behind", q, p)
	for _, x := range []*impl.Ia{&q, &p} {
		x.Ins, x.Outs, x.Hids, x.Steps = x.Ins[:1], x.Outs[:1], x.Hids[:0], x.Steps[:1]
	}
	if w := checkRivals(t, q, p); !w.refines() || len(w.sim()) != 3 {
		t.Fatal(w.sim())
	}
	rel := []impl.Pair{{A: 0, B: 0}, {A: 1, B: 1}}
	if impl.Holds(q, p, 0, 0, rel[:1]) || !impl.Holds(q, p, 0, 0, rel) {
		t.Fatal("the room behind rel")
	}
}
