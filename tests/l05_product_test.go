package tests

import (
	"fmt"
	"math"
	"slices"
	"testing"

	"loop.example/g00645/impl"
)

// kindOf is for an IaOk automaton, in which no action is of two kinds.
func kindOf(a impl.Ia, act int) string {
	switch {
	case occurs(a.Ins, act):
		return "in"
	case occurs(a.Outs, act):
		return "out"
	case occurs(a.Hids, act):
		return "hid"
	}
	return ""
}

func wantedShared(a impl.Ia, b impl.Ia, act int) bool {
	kinds := kindOf(a, act) + "/" + kindOf(b, act)
	return kinds == "in/out" || kinds == "out/in"
}

// wantedFit: where both have an action, one takes it and the other says it; every other way is ruled out.
func wantedFit(a impl.Ia, b impl.Ia) bool {
	if !wantedOk(a) || !wantedOk(b) {
		return false
	}
	for act := range 12 {
		if kindOf(a, act) != "" && kindOf(b, act) != "" && !wantedShared(a, b, act) {
			return false
		}
	}
	return a.States*b.States <= 40
}

// wantedSteps asks of each step that two might make whether they make it, so that these come in their order, each once.
func wantedSteps(a impl.Ia, b impl.Ia) []impl.Step {
	var steps []impl.Step
	all := a.States * b.States
	for from := range all {
		for act := range 12 {
			for to := range all {
				x := impl.Step{From: from / b.States, Act: act, To: to / b.States}
				y := impl.Step{From: from % b.States, Act: act, To: to % b.States}
				alone := kindOf(a, act) != "" && y.From == y.To && slices.Contains(a.Steps, x) ||
					kindOf(b, act) != "" && x.From == x.To && slices.Contains(b.Steps, y)
				together := slices.Contains(a.Steps, x) && slices.Contains(b.Steps, y)
				if shared := wantedShared(a, b, act); shared && together || !shared && alone {
					steps = append(steps, impl.Step{From: from, Act: act, To: to})
				}
			}
		}
	}
	return steps
}

// wantedCount counts the steps without making them: those of two that Fit may be thousands.
func wantedCount(a impl.Ia, b impl.Ia) int {
	count := 0
	for act := range 12 {
		ofA, ofB := 0, 0
		for _, x := range a.Steps {
			if x.Act == act {
				ofA++
			}
		}
		for _, y := range b.Steps {
			if y.Act == act {
				ofB++
			}
		}
		if wantedShared(a, b, act) {
			count += ofA * ofB
		} else {
			count += ofA*b.States + ofB*a.States
		}
	}
	return count
}

func wantedProduct(a impl.Ia, b impl.Ia) impl.Ia {
	product := impl.Ia{States: a.States * b.States, Init: a.Init*b.States + b.Init, Steps: wantedSteps(a, b)}
	for act := range 12 {
		switch kind := kindOf(a, act) + kindOf(b, act); kind {
		case "in":
			product.Ins = append(product.Ins, act)
		case "out":
			product.Outs = append(product.Outs, act)
		case "hid", "inout", "outin":
			product.Hids = append(product.Hids, act)
		}
	}
	return product
}

func wantedClashes(a impl.Ia, b impl.Ia) []int {
	var clashes []int
	for s := range a.States * b.States {
		p, q := s/b.States, s%b.States
		for act := range 12 {
			doneByA, doneByB := len(wantedAfter(a, p, act)) > 0, len(wantedAfter(b, q, act)) > 0
			unheard := kindOf(a, act) == "out" && doneByA && !doneByB || kindOf(b, act) == "out" && doneByB && !doneByA
			if wantedShared(a, b, act) && unheard {
				clashes = append(clashes, s)
			}
		}
	}
	return sorted(clashes)
}

// wantedBad joins ways along Outs and Hids over each state in between, and asks which end at a clash.
func wantedBad(product impl.Ia, clashes []int) []int {
	var leads [40][40]bool
	for s := range product.States {
		leads[s][s] = true
	}
	for _, x := range product.Steps {
		if kindOf(product, x.Act) != "in" {
			leads[x.From][x.To] = true
		}
	}
	for between := range product.States {
		for from := range product.States {
			for to := range product.States {
				leads[from][to] = leads[from][to] || leads[from][between] && leads[between][to]
			}
		}
	}
	var bad []int
	for s := range product.States {
		if slices.ContainsFunc(clashes, func(clash int) bool { return leads[s][clash] }) {
			bad = append(bad, s)
		}
	}
	return bad
}

// without takes states away and numbers the others anew; Init is not among those.
func without(a impl.Ia, gone []int) impl.Ia {
	var kept []int
	for s := range a.States {
		if !occurs(gone, s) {
			kept = append(kept, s)
		}
	}
	left := impl.Ia{States: len(kept), Init: slices.Index(kept, a.Init), Ins: a.Ins, Outs: a.Outs, Hids: a.Hids}
	for _, x := range a.Steps {
		if !occurs(gone, x.From) && !occurs(gone, x.To) {
			left.Steps = append(left.Steps, impl.Step{From: slices.Index(kept, x.From), Act: x.Act, To: slices.Index(kept, x.To)})
		}
	}
	return left
}

// talk has all that chapter 5 answers of two automata.
type talk struct {
	fit        bool
	shared     []int
	product    impl.Ia
	isProduct  bool
	clashes    []int
	bad        []int
	compatible bool
	composed   impl.Ia
	isComposed bool
}

// wantedTalk is the document's chapter 5, with no code of the program.
func wantedTalk(a impl.Ia, b impl.Ia) talk {
	var w talk
	if !wantedFit(a, b) {
		return w
	}
	w.fit = true
	for act := range 12 {
		if wantedShared(a, b, act) {
			w.shared = append(w.shared, act)
		}
	}
	w.clashes = wantedClashes(a, b)
	if wantedCount(a, b) > 400 {
		return w
	}
	w.product, w.isProduct = wantedProduct(a, b), true
	w.bad = wantedBad(w.product, w.clashes)
	if !occurs(w.bad, w.product.Init) {
		w.compatible, w.isComposed = true, true
		w.composed = wantedTrimmed(without(w.product, w.bad))
	}
	return w
}

func talkOf(a impl.Ia, b impl.Ia) talk {
	var got talk
	got.fit, got.shared = impl.Fit(a, b), impl.Shared(a, b)
	got.product, got.isProduct = impl.Product(a, b)
	got.clashes, got.bad = impl.Clashes(a, b), impl.Bad(a, b)
	got.compatible = impl.Compatible(a, b)
	got.composed, got.isComposed = impl.Composed(a, b)
	return got
}

// differs names the first function whose answers are not the same; none where all are.
func (x talk) differs(y talk) string {
	switch {
	case x.fit != y.fit:
		return "Fit"
	case !slices.Equal(x.shared, y.shared):
		return "Shared"
	case x.isProduct != y.isProduct || !sameIa(x.product, y.product):
		return "Product"
	case !slices.Equal(x.clashes, y.clashes):
		return "Clashes"
	case !slices.Equal(x.bad, y.bad):
		return "Bad"
	case x.compatible != y.compatible:
		return "Compatible"
	case x.isComposed != y.isComposed || !sameIa(x.composed, y.composed):
		return "Composed"
	}
	return ""
}

func (x talk) clone() talk {
	x.shared, x.clashes, x.bad = slices.Clone(x.shared), slices.Clone(x.clashes), slices.Clone(x.bad)
	x.product, x.composed = cloneIa(x.product), cloneIa(x.composed)
	return x
}

func (x talk) scribble() {
	scribble(x.shared)
	scribble(x.clashes)
	scribble(x.bad)
	scribbleIa(x.product)
	scribbleIa(x.composed)
}

// checkBad is the first part of promise 5: bad is a clash, or what a step with Outs or Hids leads from to what is bad, and nothing else.
func checkBad(t *testing.T, a impl.Ia, b impl.Ia, got talk) {
	t.Helper()
	for s := range got.product.States {
		want := occurs(got.clashes, s)
		for _, x := range got.product.Steps {
			want = want || x.From == s && !occurs(got.product.Ins, x.Act) && occurs(got.bad, x.To)
		}
		if occurs(got.bad, s) != want {
			t.Fatalf("of %+v and %+v: Bad %v is wrong of state %d", a, b, got.bad, s)
		}
	}
}

// checkMirrored is the last part of promise 5: with b first, all is told of the same pairs, the other way round.
func checkMirrored(t *testing.T, a impl.Ia, b impl.Ia, got talk) {
	t.Helper()
	mirror := talkOf(b, a)
	if mirror.fit != got.fit || !slices.Equal(mirror.shared, got.shared) || mirror.isProduct != got.isProduct || mirror.compatible != got.compatible || mirror.isComposed != got.isComposed {
		t.Fatalf("of %+v and %+v: %+v, the other way round %+v", a, b, got, mirror)
	}
	turned := func(s int) int { return s%b.States*a.States + s/b.States }
	turnedAll := func(states []int) []int {
		var all []int
		for _, s := range states {
			all = append(all, turned(s))
		}
		return sorted(all)
	}
	if !slices.Equal(mirror.clashes, turnedAll(got.clashes)) || !slices.Equal(mirror.bad, turnedAll(got.bad)) {
		t.Fatalf("of %+v and %+v: Clashes %v, Bad %v, the other way round %v, %v", a, b, got.clashes, got.bad, mirror.clashes, mirror.bad)
	}
	product := cloneIa(got.product)
	for i, x := range product.Steps {
		product.Steps[i] = impl.Step{From: turned(x.From), Act: x.Act, To: turned(x.To)}
	}
	slices.SortFunc(product.Steps, func(x, y impl.Step) int { return slices.Compare(numbersOf(x), numbersOf(y)) })
	if got.isProduct {
		product.Init = turned(product.Init)
	}
	if !sameIa(product, mirror.product) {
		t.Fatalf("of %+v and %+v: Product turned is %+v, the other way round it is %+v", a, b, product, mirror.product)
	}
	one, other := got.composed, mirror.composed
	if one.States != other.States || len(one.Steps) != len(other.Steps) || !slices.Equal(one.Ins, other.Ins) || !slices.Equal(one.Outs, other.Outs) || !slices.Equal(one.Hids, other.Hids) {
		t.Fatalf("of %+v and %+v: Composed %+v, the other way round %+v", a, b, one, other)
	}
}

// checkTalk holds all answers of chapter 5 against the reference and against promise 5, in both orders.
func checkTalk(t *testing.T, a impl.Ia, b impl.Ia) talk {
	t.Helper()
	for _, order := range [][2]impl.Ia{{b, a}, {a, b}} {
		got, want := talkOf(order[0], order[1]), wantedTalk(order[0], order[1])
		if name := got.differs(want); name != "" {
			t.Fatalf("%s of %+v and %+v: got %+v, want %+v", name, order[0], order[1], got, want)
		}
	}
	got := talkOf(a, b)
	if got.isProduct && !impl.IaOk(got.product) || got.isComposed && !impl.IaOk(got.composed) {
		t.Fatalf("of %+v and %+v: not IaOk: Product %+v, Composed %+v", a, b, got.product, got.composed)
	}
	checkBad(t, a, b, got)
	checkMirrored(t, a, b, got)
	return got
}

// checkNoTalk fails if any answer of two that do not Fit is not nothing, in both orders.
func checkNoTalk(t *testing.T, what string, a impl.Ia, b impl.Ia) {
	t.Helper()
	for _, order := range [][2]impl.Ia{{a, b}, {b, a}} {
		got := talkOf(order[0], order[1])
		if name := got.differs(talk{}); name != "" {
			t.Errorf("%s: %s of two that do not Fit: %+v", what, name, got)
		}
	}
}

// withSteps gives an automaton its steps, each as From, Act, To.
func withSteps(a impl.Ia, steps ...[3]int) impl.Ia {
	a = cloneIa(a)
	for _, x := range steps {
		a.Steps = append(a.Steps, impl.Step{From: x[0], Act: x[1], To: x[2]})
	}
	return a
}

func TestFitByHand(t *testing.T) {
	one := func(ins []int, outs []int, hids []int) impl.Ia {
		return impl.Ia{States: 1, Ins: ins, Outs: outs, Hids: hids}
	}
	full := one([]int{1, 4}, []int{2, 5}, []int{3, 6})
	tests := []struct {
		name string
		a, b impl.Ia
		want bool
	}{
		{"no actions at all", one(nil, nil, nil), one(nil, nil, nil), true},
		{"other actions", full, one([]int{0, 7}, []int{8, 9}, []int{10, 11}), true},
		{"in Ins of both", full, one([]int{4}, nil, nil), false},
		{"in Outs of both", full, one(nil, []int{5}, nil), false},
		{"in Hids of both", full, one(nil, nil, []int{6}), false},
		{"in Hids of a, in Ins of b", full, one([]int{6}, nil, nil), false},
		{"in Hids of a, in Outs of b", full, one(nil, []int{6}, nil), false},
		{"in Ins of a, in Hids of b", full, one(nil, nil, []int{4}), false},
		{"in Outs of a, in Hids of b", full, one(nil, nil, []int{5}), false},
		{"in Ins of a, in Outs of b", full, one(nil, []int{4}, nil), true},
		{"in Outs of a, in Ins of b", full, one([]int{5}, nil, nil), true},
		{"Ins and Outs the other way round", full, one([]int{2, 5}, []int{1, 4}, []int{0}), true},
		{"all shared but one, in Ins of both", full, one([]int{1, 2, 5}, []int{4}, nil), false},
		{"the last action in Ins of both", one([]int{11}, nil, nil), one([]int{11}, nil, nil), false},
		{"the last action in Outs of both", one(nil, []int{11}, nil), one(nil, []int{11}, nil), false},
		{"the last action in Hids of both", one(nil, nil, []int{11}), one(nil, nil, []int{11}), false},
		{"the first action in Hids of both", one(nil, nil, []int{0}), one(nil, nil, []int{0}), false},
		{"the last action shared", one([]int{11}, nil, nil), one(nil, []int{11}, nil), true},
		{"all actions shared", one(actionsOf(0xfff), nil, nil), one(nil, actionsOf(0xfff), nil), true},
		{"with itself", full, full, false},
		{"with itself, Ins alone", one([]int{1}, nil, nil), one([]int{1}, nil, nil), false},
	}
	for _, x := range tests {
		if got, turned := impl.Fit(x.a, x.b), impl.Fit(x.b, x.a); got != x.want || turned != x.want {
			t.Errorf("%s: Fit %v, the other way round %v, want %v", x.name, got, turned, x.want)
		}
		if !x.want {
			checkNoTalk(t, x.name, x.a, x.b)
		}
		checkTalk(t, x.a, x.b)
	}
}

// All kinds that one action may have in both: in none, in Ins, in Outs, in Hids.
func TestFitOfAllKindsOfAnAction(t *testing.T) {
	kinds := func(act int) []impl.Ia {
		return []impl.Ia{{States: 1}, {States: 1, Ins: []int{act}}, {States: 1, Outs: []int{act}}, {States: 1, Hids: []int{act}}}
	}
	for act := range 12 {
		for i, a := range kinds(act) {
			for j, b := range kinds(act) {
				shared := i == 1 && j == 2 || i == 2 && j == 1
				if got := impl.Fit(a, b); got != (i == 0 || j == 0 || shared) {
					t.Errorf("action %d of kinds %d and %d: Fit %v", act, i, j, got)
				}
				if got := impl.Shared(a, b); len(got) == 1 != shared {
					t.Errorf("action %d of kinds %d and %d: Shared %v", act, i, j, got)
				}
				checkTalk(t, a, b)
			}
		}
	}
}

func TestFitOfAllSizes(t *testing.T) {
	for m := range 43 {
		for n := range 43 {
			want := 1 <= m && m <= 40 && 1 <= n && n <= 40 && m*n <= 40
			a, b := impl.Ia{States: m, Outs: []int{0}}, impl.Ia{States: n, Ins: []int{0}}
			if got := impl.Fit(a, b); got != want {
				t.Errorf("%d states and %d: Fit %v", m, n, got)
			}
			if product, ok := impl.Product(a, b); ok != want || want && product.States != m*n {
				t.Errorf("%d states and %d: Product %+v, %v", m, n, product, ok)
			}
			if !want {
				checkNoTalk(t, fmt.Sprint(m, " states and ", n), a, b)
			}
		}
	}
	// Multiplied, these are 40 or fewer for who does not look whether they are right, or lets numbers wrap around.
	for _, sizes := range [][2]int{{-1, -1}, {-5, -8}, {0, 0}, {1 << 32, 1 << 32}, {math.MinInt, math.MinInt}, {math.MaxInt, math.MaxInt}, {-40, 1}, {math.MinInt, 1}, {math.MaxInt, 2}, {41, 1}} {
		checkNoTalk(t, fmt.Sprint("sizes ", sizes), impl.Ia{States: sizes[0]}, impl.Ia{States: sizes[1]})
	}
}

func TestNoTalkWithWrongAutomata(t *testing.T) {
	for name, wrong := range badAutomata() {
		checkNoTalk(t, name, wrong, impl.Ia{States: 1})
		checkNoTalk(t, name+", with a step", wrong, impl.Ia{States: 1, Outs: []int{9}, Steps: []impl.Step{{From: 0, Act: 9, To: 0}}})
		checkNoTalk(t, name+", with itself", wrong, wrong)
	}
}

func TestSharedByHand(t *testing.T) {
	tests := []struct {
		name       string
		a, b       impl.Ia
		want       []int
		left       [2][]int // Ins and Outs of the product
		hiddenThen []int
	}{
		{"no actions", impl.Ia{States: 1}, impl.Ia{States: 2}, nil, [2][]int{}, nil},
		{"none", impl.Ia{States: 1, Ins: []int{3}, Outs: []int{1}, Hids: []int{5}}, impl.Ia{States: 1, Ins: []int{0}, Outs: []int{2}, Hids: []int{4}},
			nil, [2][]int{{0, 3}, {1, 2}}, []int{4, 5}},
		{"one, that a says", impl.Ia{States: 1, Ins: []int{3}, Outs: []int{1}, Hids: []int{5}}, impl.Ia{States: 1, Ins: []int{1}, Outs: []int{2}, Hids: []int{4}},
			[]int{1}, [2][]int{{3}, {2}}, []int{1, 4, 5}},
		{"one, that a takes", impl.Ia{States: 1, Ins: []int{3}, Outs: []int{1}, Hids: []int{5}}, impl.Ia{States: 1, Ins: []int{0}, Outs: []int{3}, Hids: []int{4}},
			[]int{3}, [2][]int{{0}, {1}}, []int{3, 4, 5}},
		{"several, that a says", impl.Ia{States: 1, Outs: []int{1, 7, 11}}, impl.Ia{States: 1, Ins: []int{0, 1, 7, 11}},
			[]int{1, 7, 11}, [2][]int{{0}, nil}, []int{1, 7, 11}},
		{"several, that a takes", impl.Ia{States: 1, Ins: []int{0, 1, 7, 11}}, impl.Ia{States: 1, Outs: []int{0, 2, 11}},
			[]int{0, 11}, [2][]int{{1, 7}, {2}}, []int{0, 11}},
		{"several from either side, mingled", impl.Ia{States: 1, Ins: []int{0, 4, 9}, Outs: []int{2, 6, 11}, Hids: []int{8}}, impl.Ia{States: 1, Ins: []int{2, 3, 11}, Outs: []int{4, 5, 9}, Hids: []int{1}},
			[]int{2, 4, 9, 11}, [2][]int{{0, 3}, {5, 6}}, []int{1, 2, 4, 8, 9, 11}},
		{"all of them", impl.Ia{States: 1, Ins: actionsOf(0x555), Outs: actionsOf(0xaaa)}, impl.Ia{States: 1, Ins: actionsOf(0xaaa), Outs: actionsOf(0x555)},
			actionsOf(0xfff), [2][]int{}, actionsOf(0xfff)},
	}
	for _, x := range tests {
		if got := impl.Shared(x.a, x.b); !slices.Equal(got, x.want) {
			t.Errorf("%s: Shared %v, want %v", x.name, got, x.want)
		}
		if got := impl.Shared(x.b, x.a); !slices.Equal(got, x.want) {
			t.Errorf("%s, the other way round: Shared %v, want %v", x.name, got, x.want)
		}
		product, ok := impl.Product(x.a, x.b)
		if !ok || !slices.Equal(product.Ins, x.left[0]) || !slices.Equal(product.Outs, x.left[1]) || !slices.Equal(product.Hids, x.hiddenThen) {
			t.Errorf("%s: Product %+v, %v", x.name, product, ok)
		}
		checkTalk(t, x.a, x.b)
	}
	// They share for who does not look whether they Fit.
	says, takes := impl.Ia{States: 7, Outs: []int{3}, Ins: []int{4}}, impl.Ia{States: 6, Ins: []int{3}}
	checkNoTalk(t, "42 states", says, takes)
	takes.States, takes.Ins = 5, []int{3, 4}
	checkNoTalk(t, "another action in Ins of both", says, takes)
}

// asker says 0 and takes 1; answerer takes 0 and says 1, with a second answer that nobody waits for.
func asker() impl.Ia {
	return withSteps(impl.Ia{States: 2, Ins: []int{1}, Outs: []int{0}}, [3]int{0, 0, 1}, [3]int{1, 1, 0})
}

func answerer() impl.Ia {
	return withSteps(impl.Ia{States: 3, Ins: []int{0}, Outs: []int{1}}, [3]int{0, 0, 1}, [3]int{1, 1, 0}, [3]int{1, 1, 2}, [3]int{2, 1, 0})
}

func TestProductByHand(t *testing.T) {
	tests := []struct {
		name string
		a, b impl.Ia
		want impl.Ia
	}{
		{"one state each, no steps", impl.Ia{States: 1}, impl.Ia{States: 1}, impl.Ia{States: 1}},
		{"no steps, both begin elsewhere", impl.Ia{States: 3, Init: 2}, impl.Ia{States: 4, Init: 1}, impl.Ia{States: 12, Init: 9}},
		{"the last pair is the beginning", impl.Ia{States: 5, Init: 4}, impl.Ia{States: 8, Init: 7}, impl.Ia{States: 40, Init: 39}},
		{"no action shared",
			withSteps(impl.Ia{States: 2, Init: 1, Ins: []int{5}, Outs: []int{0}}, [3]int{0, 0, 0}, [3]int{0, 0, 1}, [3]int{1, 5, 0}),
			withSteps(impl.Ia{States: 3, Init: 2, Ins: []int{1}, Hids: []int{7}}, [3]int{0, 7, 2}, [3]int{2, 1, 0}),
			withSteps(impl.Ia{States: 6, Init: 5, Ins: []int{1, 5}, Outs: []int{0}, Hids: []int{7}},
				[3]int{0, 0, 0}, [3]int{0, 0, 3}, [3]int{0, 7, 2},
				[3]int{1, 0, 1}, [3]int{1, 0, 4},
				[3]int{2, 0, 2}, [3]int{2, 0, 5}, [3]int{2, 1, 0},
				[3]int{3, 5, 0}, [3]int{3, 7, 5},
				[3]int{4, 5, 1},
				[3]int{5, 1, 3}, [3]int{5, 5, 2})},
		{"some shared",
			withSteps(impl.Ia{States: 2, Ins: []int{3}, Outs: []int{1}, Hids: []int{2}}, [3]int{0, 3, 1}, [3]int{1, 1, 0}, [3]int{1, 1, 1}, [3]int{1, 2, 0}),
			withSteps(impl.Ia{States: 2, Ins: []int{1}, Outs: []int{4}}, [3]int{0, 1, 1}, [3]int{1, 1, 1}, [3]int{1, 4, 0}),
			withSteps(impl.Ia{States: 4, Ins: []int{3}, Outs: []int{4}, Hids: []int{1, 2}},
				[3]int{0, 3, 2},
				[3]int{1, 3, 3}, [3]int{1, 4, 0},
				[3]int{2, 1, 1}, [3]int{2, 1, 3}, [3]int{2, 2, 0},
				[3]int{3, 1, 1}, [3]int{3, 1, 3}, [3]int{3, 2, 1}, [3]int{3, 4, 2})},
		{"all shared", asker(), answerer(),
			withSteps(impl.Ia{States: 6, Hids: []int{0, 1}}, [3]int{0, 0, 4}, [3]int{4, 1, 0}, [3]int{4, 1, 2}, [3]int{5, 1, 0})},
		{"all shared, the other way round", answerer(), asker(),
			withSteps(impl.Ia{States: 6, Hids: []int{0, 1}}, [3]int{0, 0, 3}, [3]int{3, 1, 0}, [3]int{3, 1, 4}, [3]int{5, 1, 0})},
		{"shared, but no step with it on one side",
			withSteps(impl.Ia{States: 2, Outs: []int{0}}, [3]int{0, 0, 1}), impl.Ia{States: 2, Ins: []int{0}},
			impl.Ia{States: 4, Hids: []int{0}}},
		{"steps to themselves",
			withSteps(impl.Ia{States: 1, Outs: []int{0}, Hids: []int{4}}, [3]int{0, 0, 0}, [3]int{0, 4, 0}),
			withSteps(impl.Ia{States: 1, Ins: []int{0, 2}}, [3]int{0, 0, 0}, [3]int{0, 2, 0}),
			withSteps(impl.Ia{States: 1, Ins: []int{2}, Hids: []int{0, 4}}, [3]int{0, 0, 0}, [3]int{0, 2, 0}, [3]int{0, 4, 0})},
		{"40 in a row and one that waits", row(40), impl.Ia{States: 1, Ins: []int{0}}, changed(row(40), func(a *impl.Ia) { a.Ins = []int{0} })},
		{"40 in a row, heard by one", row(40), withSteps(impl.Ia{States: 1, Ins: []int{3}}, [3]int{0, 3, 0}), changed(row(40), hideAll)},
	}
	for _, x := range tests {
		if got, ok := impl.Product(x.a, x.b); !ok || !sameIa(got, x.want) {
			t.Errorf("%s: %+v, %v, want %+v", x.name, got, ok, x.want)
		}
		checkTalk(t, x.a, x.b)
	}
}

func TestProductStepsAtTheLimit(t *testing.T) {
	ring := func(states int, count int, act int) impl.Ia {
		a := impl.Ia{States: states, Hids: []int{act}}
		for i := range count {
			a.Steps = append(a.Steps, impl.Step{From: i / states, Act: act, To: i % states})
		}
		return a
	}
	hum := withSteps(impl.Ia{States: 1, Hids: []int{0}}, [3]int{0, 0, 0})
	says := withSteps(impl.Ia{States: 20, Init: 7, Outs: []int{11}, Hids: []int{5}}, [3]int{7, 11, 7})
	for i := range 200 {
		says.Steps = append(says.Steps, impl.Step{From: i / 20, Act: 5, To: i % 20})
	}
	slices.SortFunc(says.Steps, func(x, y impl.Step) int { return slices.Compare(numbersOf(x), numbersOf(y)) })
	tests := []struct {
		name string
		a, b impl.Ia
		want int
	}{
		{"400 of a alone", crowded(400), impl.Ia{States: 1}, 400},
		{"360 of a, 40 for one of b", crowded(360), hum, 400},
		{"361 of a, 40 for one of b", crowded(361), hum, 401},
		{"200 of a, for each state of two", ring(20, 200, 1), impl.Ia{States: 2}, 400},
		{"201 of a, for each state of two", ring(20, 201, 1), impl.Ia{States: 2}, 402},
		{"400 together", crowded(400), withSteps(impl.Ia{States: 1, Ins: []int{6}}, [3]int{0, 6, 0}), 400},
		{"400 together, and nothing for those that are not heard", crowded(400), impl.Ia{States: 1, Ins: []int{6}}, 0},
		{"361 together and 40 for one of b", crowded(361), withSteps(impl.Ia{States: 1, Ins: []int{6}, Hids: []int{0}}, [3]int{0, 0, 0}, [3]int{0, 6, 0}), 401},
		{"400 apart and one together", says, withSteps(impl.Ia{States: 2, Ins: []int{11}}, [3]int{1, 11, 0}), 401},
		{"400 apart and none together", says, impl.Ia{States: 2, Ins: []int{11}}, 400},
		{"216 of each", ring(6, 36, 1), ring(6, 36, 2), 432},
		{"880", ring(20, 400, 1), ring(2, 4, 2), 880},
	}
	for _, x := range tests {
		if got := wantedCount(x.a, x.b); got != x.want {
			t.Fatalf("%s: %d steps, not %d", x.name, got, x.want)
		}
		for _, order := range [][2]impl.Ia{{x.a, x.b}, {x.b, x.a}} {
			got, ok := impl.Product(order[0], order[1])
			if ok != (x.want <= 400) || ok && len(got.Steps) != x.want || !ok && !sameIa(got, impl.Ia{}) {
				t.Errorf("%s: %v with %d steps", x.name, ok, len(got.Steps))
			}
		}
		checkTalk(t, x.a, x.b)
	}
}

// Where the product has too many steps, two still Fit, share and clash; all else is nothing.
func TestTalkWithTooManySteps(t *testing.T) {
	b := withSteps(impl.Ia{States: 1, Ins: []int{6}, Hids: []int{0}}, [3]int{0, 0, 0})
	deaf := cloneIa(b)
	b = withSteps(b, [3]int{0, 6, 0})
	for _, listener := range []impl.Ia{b, deaf} {
		a := withSteps(crowded(360), [3]int{9, 6, 0}, [3]int{10, 6, 0})
		a.Init, a.Hids = 30, []int{1}
		for s := 11; s < 21; s++ {
			a = withSteps(a, [3]int{s, 1, 0})
		}
		got := checkTalk(t, a, listener)
		heard := len(listener.Steps) == 2
		if !got.fit || !slices.Equal(got.shared, []int{6}) || heard != (len(got.clashes) == 0) || heard == got.isProduct {
			t.Fatalf("%+v", got)
		}
	}
	// What is said is not heard at all, but there is too much else.
	a := impl.Ia{States: 20, Init: 19, Outs: []int{6}, Hids: []int{1}}
	for i := range 380 {
		a.Steps = append(a.Steps, impl.Step{From: i / 20, Act: 1, To: i % 20})
	}
	a = withSteps(a, [3]int{19, 6, 0})
	got := checkTalk(t, a, impl.Ia{States: 2, Ins: []int{6}})
	if !got.fit || !slices.Equal(got.shared, []int{6}) || !slices.Equal(got.clashes, []int{38, 39}) || got.isProduct || len(got.bad) != 0 || got.compatible || got.isComposed {
		t.Fatalf("%+v", got)
	}
}

func TestPairOfByHand(t *testing.T) {
	tests := []struct {
		states, s int
		want      impl.Pair
	}{
		{4, 0, impl.Pair{}},
		{4, 3, impl.Pair{A: 0, B: 3}},
		{4, 4, impl.Pair{A: 1, B: 0}},
		{4, 11, impl.Pair{A: 2, B: 3}},
		{4, 39, impl.Pair{A: 9, B: 3}},
		{4, 40, impl.Pair{A: 10, B: 0}},
		{4, 1603, impl.Pair{A: 400, B: 3}},
		{4, math.MaxInt, impl.Pair{A: math.MaxInt / 4, B: 3}},
		{4, -1, impl.Pair{}},
		{4, -5, impl.Pair{}},
		{4, math.MinInt, impl.Pair{}},
		{1, 0, impl.Pair{}},
		{1, 1, impl.Pair{A: 1, B: 0}},
		{1, 39, impl.Pair{A: 39, B: 0}},
		{1, math.MaxInt, impl.Pair{A: math.MaxInt, B: 0}},
		{1, -1, impl.Pair{}},
		{40, 39, impl.Pair{A: 0, B: 39}},
		{40, 40, impl.Pair{A: 1, B: 0}},
		{41, 40, impl.Pair{A: 0, B: 40}},
		{41, 83, impl.Pair{A: 2, B: 1}},
		{math.MaxInt, math.MaxInt, impl.Pair{A: 1, B: 0}},
		{math.MaxInt, math.MaxInt - 1, impl.Pair{A: 0, B: math.MaxInt - 1}},
		{0, 0, impl.Pair{}},
		{0, 7, impl.Pair{}},
		{0, -1, impl.Pair{}},
		{-1, 0, impl.Pair{}},
		{-1, 7, impl.Pair{}},
		{-4, 7, impl.Pair{}},
		{-1, math.MinInt, impl.Pair{}},
		{math.MinInt, math.MaxInt, impl.Pair{}},
	}
	// PairOf asks for States alone: what else is wrong does not matter.
	others := []impl.Ia{
		{}, {Init: -1}, {Init: math.MaxInt}, {Ins: []int{12}}, {Ins: []int{1}, Outs: []int{1}}, {Hids: []int{2, 1}},
		{Steps: []impl.Step{{From: -1, Act: 5, To: 77}}}, {Outs: []int{6}, Steps: crowded(1600).Steps},
	}
	for _, x := range tests {
		for _, b := range others {
			b.States = x.states
			if got := impl.PairOf(b, x.s); got != x.want {
				t.Errorf("PairOf(%d) with %d states, Init %d: %+v, want %+v", x.s, x.states, b.Init, got, x.want)
			}
		}
	}
}

// PairOf tells each state of a product from all others, and the states go through the pairs in order.
func TestPairOfGoesThroughAllPairs(t *testing.T) {
	for m := 1; m <= 40; m++ {
		for n := 1; m*n <= 40; n++ {
			b, s := impl.Ia{States: n}, 0
			for p := range m {
				for q := range n {
					if got := impl.PairOf(b, s); got != (impl.Pair{A: p, B: q}) {
						t.Fatalf("%d states and %d: PairOf(%d) = %+v", m, n, s, got)
					}
					product, ok := impl.Product(impl.Ia{States: m, Init: p}, impl.Ia{States: n, Init: q})
					if !ok || product.Init != s {
						t.Fatalf("%d states and %d: Init of %d and %d is %+v", m, n, p, q, product)
					}
					s++
				}
			}
		}
	}
}

func TestClashesByHand(t *testing.T) {
	// Each says one action and takes the other in its state 1 alone.
	a := withSteps(impl.Ia{States: 2, Ins: []int{1}, Outs: []int{0}}, [3]int{1, 0, 1}, [3]int{1, 1, 1})
	b := withSteps(impl.Ia{States: 2, Ins: []int{0}, Outs: []int{1}}, [3]int{1, 0, 1}, [3]int{1, 1, 1})
	tests := []struct {
		name string
		a, b impl.Ia
		want []int
	}{
		{"no actions", impl.Ia{States: 3}, impl.Ia{States: 3}, nil},
		{"none says anything", impl.Ia{States: 2, Outs: []int{0}}, impl.Ia{States: 2, Ins: []int{0}}, nil},
		{"each takes all that is said", withSteps(impl.Ia{States: 1, Ins: []int{1}, Outs: []int{0}}, [3]int{0, 0, 0}, [3]int{0, 1, 0}),
			withSteps(impl.Ia{States: 1, Ins: []int{0}, Outs: []int{1}}, [3]int{0, 0, 0}, [3]int{0, 1, 0}), nil},
		{"b takes what nobody says", impl.Ia{States: 1, Outs: []int{0}}, withSteps(impl.Ia{States: 1, Ins: []int{0}}, [3]int{0, 0, 0}), nil},
		{"a says what b does not take", withSteps(impl.Ia{States: 1, Outs: []int{0}}, [3]int{0, 0, 0}), impl.Ia{States: 1, Ins: []int{0}}, []int{0}},
		{"b says what a does not take", impl.Ia{States: 1, Ins: []int{0}}, withSteps(impl.Ia{States: 1, Outs: []int{0}}, [3]int{0, 0, 0}), []int{0}},
		{"both say what the other does not take", withSteps(impl.Ia{States: 1, Ins: []int{1}, Outs: []int{0}}, [3]int{0, 0, 0}),
			withSteps(impl.Ia{States: 1, Ins: []int{0}, Outs: []int{1}}, [3]int{0, 1, 0}), []int{0}},
		{"where one says and the other does not take, from either side", a, b, []int{1, 2}},
		{"a alone at places", withSteps(impl.Ia{States: 3, Outs: []int{5}}, [3]int{0, 5, 1}, [3]int{2, 5, 2}),
			withSteps(impl.Ia{States: 2, Ins: []int{5}}, [3]int{1, 5, 0}), []int{0, 4}},
		{"b alone at places", withSteps(impl.Ia{States: 2, Ins: []int{5}}, [3]int{1, 5, 0}),
			withSteps(impl.Ia{States: 3, Outs: []int{5}}, [3]int{0, 5, 1}, [3]int{2, 5, 2}), []int{0, 2}},
		{"the last of several is not taken", withSteps(impl.Ia{States: 1, Outs: []int{0, 5, 11}}, [3]int{0, 0, 0}, [3]int{0, 5, 0}, [3]int{0, 11, 0}),
			withSteps(impl.Ia{States: 1, Ins: []int{0, 5, 11}}, [3]int{0, 0, 0}, [3]int{0, 5, 0}), []int{0}},
		{"what is not shared is said to nobody", withSteps(impl.Ia{States: 2, Outs: []int{0}, Hids: []int{1}}, [3]int{0, 0, 1}, [3]int{1, 1, 0}),
			withSteps(impl.Ia{States: 2, Ins: []int{2}, Outs: []int{3}}, [3]int{0, 3, 1}, [3]int{1, 2, 0}), nil},
		{"said to several states, taken in one step", withSteps(impl.Ia{States: 2, Outs: []int{4}}, [3]int{0, 4, 0}, [3]int{0, 4, 1}),
			withSteps(impl.Ia{States: 1, Ins: []int{4}}, [3]int{0, 4, 0}), nil},
		{"asker and answerer", asker(), answerer(), []int{1, 2}},
		{"at the beginning alone", withSteps(impl.Ia{States: 2, Init: 1, Outs: []int{0}}, [3]int{1, 0, 0}), impl.Ia{States: 1, Ins: []int{0}}, []int{1}},
		{"at a pair that cannot be come to", withSteps(impl.Ia{States: 2, Outs: []int{0}}, [3]int{1, 0, 0}), impl.Ia{States: 1, Ins: []int{0}}, []int{1}},
	}
	for _, x := range tests {
		if got := impl.Clashes(x.a, x.b); !slices.Equal(got, x.want) {
			t.Errorf("%s: %v, want %v", x.name, got, x.want)
		}
		checkTalk(t, x.a, x.b)
	}
}

// walker goes with each action as its steps say; in its last state it says 11, which deafTo11 does not take.
// It takes 0 and 1, says 2 and 3, hides 4 and 5, and says 6 to deafTo11, which takes it always.
func walker(states int, steps ...[3]int) impl.Ia {
	a := withSteps(impl.Ia{States: states, Ins: []int{0, 1}, Outs: []int{2, 3, 6, 11}, Hids: []int{4, 5}}, steps...)
	return withSteps(a, [3]int{states - 1, 11, 0})
}

func deafTo11() impl.Ia {
	return withSteps(impl.Ia{States: 1, Ins: []int{6, 11}}, [3]int{0, 6, 0})
}

func TestBadByHand(t *testing.T) {
	tests := []struct {
		name string
		a    impl.Ia
		want []int
	}{
		{"the clash alone", walker(3), []int{2}},
		{"the beginning is the clash", walker(1), []int{0}},
		{"by an output", walker(3, [3]int{1, 2, 2}), []int{1, 2}},
		{"by what is hidden", walker(3, [3]int{1, 4, 2}), []int{1, 2}},
		{"by what is shared", walker(3, [3]int{1, 6, 2}), []int{1, 2}},
		{"by an input alone", walker(3, [3]int{1, 0, 2}), []int{2}},
		{"by an input, and by an output", walker(3, [3]int{1, 0, 2}, [3]int{1, 2, 2}), []int{1, 2}},
		{"by an input behind an output", walker(4, [3]int{0, 2, 1}, [3]int{1, 0, 3}), []int{3}},
		{"by an output behind an input", walker(4, [3]int{0, 0, 1}, [3]int{1, 2, 3}), []int{1, 3}},
		{"along several steps, one of each kind", walker(5, [3]int{0, 2, 1}, [3]int{1, 4, 2}, [3]int{2, 6, 4}), []int{0, 1, 2, 4}},
		{"along several steps, against the order", walker(5, [3]int{0, 4, 4}, [3]int{1, 5, 0}, [3]int{2, 3, 1}, [3]int{3, 2, 2}), []int{0, 1, 2, 3, 4}},
		{"only from some", walker(6, [3]int{0, 2, 1}, [3]int{2, 3, 3}, [3]int{3, 4, 5}, [3]int{4, 5, 4}), []int{2, 3, 5}},
		{"one of two ways is enough", walker(4, [3]int{0, 2, 1}, [3]int{0, 2, 3}), []int{0, 3}},
		{"both ways", walker(4, [3]int{0, 2, 1}, [3]int{0, 4, 2}, [3]int{1, 2, 3}, [3]int{2, 2, 3}), []int{0, 1, 2, 3}},
		{"a circle that is left to a clash", walker(4, [3]int{0, 2, 1}, [3]int{1, 2, 2}, [3]int{1, 4, 3}, [3]int{2, 2, 0}), []int{0, 1, 2, 3}},
		{"a circle that is not left", walker(4, [3]int{0, 2, 1}, [3]int{1, 4, 2}, [3]int{2, 6, 0}), []int{3}},
		{"a circle that is left by an input alone", walker(4, [3]int{0, 2, 1}, [3]int{1, 0, 3}, [3]int{1, 4, 2}, [3]int{2, 6, 0}), []int{3}},
		{"a circle with the clash in it", walker(3, [3]int{0, 2, 1}, [3]int{1, 2, 2}), []int{0, 1, 2}},
		{"behind the clash", walker(3, [3]int{1, 2, 1}), []int{2}},
	}
	for _, x := range tests {
		if got := impl.Bad(x.a, deafTo11()); !slices.Equal(got, x.want) {
			t.Errorf("%s: Bad %v, want %v", x.name, got, x.want)
		}
		// With one state on the other side, the states of the product are the same in both orders.
		if got := impl.Bad(deafTo11(), x.a); !slices.Equal(got, x.want) {
			t.Errorf("%s, the other way round: Bad %v, want %v", x.name, got, x.want)
		}
		for init := range x.a.States {
			x.a.Init = init
			if got := impl.Compatible(x.a, deafTo11()); got == occurs(x.want, init) {
				t.Errorf("%s: from %d on, Compatible %v", x.name, init, got)
			}
			checkTalk(t, x.a, deafTo11())
		}
	}
}

// An input is asked for only where it is one of the product: what the other one says comes unasked.
func TestBadWhereTheOtherSaysTheInput(t *testing.T) {
	a := walker(3, [3]int{0, 0, 1}, [3]int{1, 1, 2})
	b := withSteps(impl.Ia{States: 2, Ins: []int{11}, Outs: []int{0}}, [3]int{0, 0, 1})
	// Pairs: 0 is (0, 0), from which b says 0, to (1, 1), which is 3.
	if got := checkTalk(t, a, b); !slices.Equal(got.bad, []int{2, 4, 5}) || !slices.Equal(got.clashes, []int{2, 4, 5}) || !got.compatible {
		t.Fatalf("%+v", got)
	}
	b = withSteps(impl.Ia{States: 3, Ins: []int{11}, Outs: []int{0, 1}}, [3]int{0, 0, 1}, [3]int{1, 1, 2})
	// From (0, 0) by 0 to (1, 1), by 1 to (2, 2), which is a clash.
	got := checkTalk(t, a, b)
	if !occurs(got.bad, 0) || !occurs(got.bad, 4) || occurs(got.clashes, 0) || occurs(got.clashes, 4) || got.compatible || got.isComposed {
		t.Fatalf("%+v", got)
	}
}

func TestComposedByHand(t *testing.T) {
	sets := impl.Ia{Ins: []int{0, 1}, Outs: []int{2, 3}, Hids: []int{4, 5, 6, 11}}
	with := func(states int, init int, steps ...[3]int) impl.Ia {
		a := withSteps(sets, steps...)
		a.States, a.Init = states, init
		return a
	}
	from := func(init int, a impl.Ia) impl.Ia {
		a.Init = init
		return a
	}
	tests := []struct {
		name string
		a    impl.Ia
		want impl.Ia
		ok   bool
	}{
		{"the beginning is a clash", walker(1), impl.Ia{}, false},
		{"the beginning is a clash, and more is there", from(2, walker(3, [3]int{0, 0, 1})), impl.Ia{}, false},
		{"the beginning is bad", walker(3, [3]int{0, 2, 1}, [3]int{1, 4, 2}), impl.Ia{}, false},
		{"the clash is not come to", walker(3, [3]int{0, 2, 1}), with(2, 0, [3]int{0, 2, 1}), true},
		{"nothing is left but the beginning", walker(3, [3]int{0, 0, 1}, [3]int{1, 4, 2}), with(1, 0), true},
		{"an input that leads to the clash is taken away", walker(3, [3]int{0, 0, 2}, [3]int{0, 1, 1}), with(2, 0, [3]int{0, 1, 1}), true},
		{"an input that leads to what is bad is taken away", walker(4, [3]int{0, 0, 1}, [3]int{0, 1, 2}, [3]int{1, 6, 3}), with(2, 0, [3]int{0, 1, 1}), true},
		{"what is behind what is bad alone goes, too", walker(5, [3]int{0, 0, 1}, [3]int{0, 1, 3}, [3]int{1, 2, 2}, [3]int{1, 4, 4}), with(2, 0, [3]int{0, 1, 1}), true},
		{"what may be come to another way stays", walker(5, [3]int{0, 0, 1}, [3]int{0, 1, 2}, [3]int{1, 2, 2}, [3]int{1, 4, 4}), with(2, 0, [3]int{0, 1, 1}), true},
		{"the beginning is the last one that stays", from(2, walker(4, [3]int{0, 0, 3}, [3]int{0, 1, 2}, [3]int{2, 2, 0})), with(2, 1, [3]int{0, 1, 1}, [3]int{1, 2, 0}), true},
	}
	for _, x := range tests {
		for _, order := range [][2]impl.Ia{{x.a, deafTo11()}, {deafTo11(), x.a}} {
			got, ok := impl.Composed(order[0], order[1])
			if ok != x.ok || !sameIa(got, x.want) {
				t.Errorf("%s: %+v, %v, want %+v, %v", x.name, got, ok, x.want, x.ok)
			}
			if compatible := impl.Compatible(order[0], order[1]); compatible != x.ok {
				t.Errorf("%s: Compatible %v", x.name, compatible)
			}
		}
		checkTalk(t, x.a, deafTo11())
	}
}

// Where nothing clashes, nothing is bad, and what is Composed is the Product trimmed.
func TestComposedWhereNothingClashes(t *testing.T) {
	listener := withSteps(impl.Ia{States: 2, Ins: []int{3}}, [3]int{0, 3, 1}, [3]int{1, 3, 0})
	pairs := [][2]impl.Ia{
		{{States: 1}, {States: 1}},
		{row(20), listener},
		{row(20), {States: 2, Init: 1, Outs: []int{0}}},
		{crowded(400), {States: 1, Ins: []int{0}}},
		{talker(), withSteps(impl.Ia{States: 1, Ins: []int{1, 11}}, [3]int{0, 1, 0}, [3]int{0, 11, 0})},
	}
	for _, x := range pairs {
		got := checkTalk(t, x[0], x[1])
		if len(got.clashes) != 0 || len(got.bad) != 0 || !got.compatible || !sameIa(got.composed, impl.Trimmed(got.product)) {
			t.Errorf("%+v", got)
		}
	}
}

// composedPairs tells which pair each state of Composed is: those that are reached without a bad one, in their order.
func composedPairs(got talk, b impl.Ia) []impl.Pair {
	left := cloneIa(got.product)
	left.Steps = nil
	for _, x := range got.product.Steps {
		if !occurs(got.bad, x.From) && !occurs(got.bad, x.To) {
			left.Steps = append(left.Steps, x)
		}
	}
	var pairs []impl.Pair
	for _, s := range wantedReached(left) {
		pairs = append(pairs, impl.PairOf(b, s))
	}
	return pairs
}

// What follows from the chapter: composed, nobody says what the other does not take.
func checkAllIsHeard(t *testing.T, a impl.Ia, b impl.Ia, got talk) {
	t.Helper()
	if !got.isComposed {
		return
	}
	pairs := composedPairs(got, b)
	if len(pairs) != got.composed.States {
		t.Fatalf("of %+v and %+v: Composed %+v is of the pairs %+v", a, b, got.composed, pairs)
	}
	for s, x := range pairs {
		saidByA := impl.SetMeet(impl.Said(a, x.A), got.shared)
		saidByB := impl.SetMeet(impl.Said(b, x.B), got.shared)
		if !impl.SetIn(saidByA, impl.Taken(b, x.B)) || !impl.SetIn(saidByB, impl.Taken(a, x.A)) {
			t.Fatalf("of %+v and %+v: in state %d of Composed, the pair %+v, one is not heard", a, b, s, x)
		}
		if !impl.SetIn(impl.SetJoin(saidByA, saidByB), impl.Done(got.composed, s)) {
			t.Fatalf("of %+v and %+v: in state %d of Composed, the pair %+v, what is said is not done", a, b, s, x)
		}
	}
}

// smallTalkers are all automata of two states that take and say one action each.
func smallTalkers(in int, out int) []impl.Ia {
	var all []impl.Ia
	for mask := range 1 << 8 {
		a := impl.Ia{States: 2, Ins: []int{in}, Outs: []int{out}}
		for from := range 2 {
			for _, act := range []int{min(in, out), max(in, out)} {
				for to := range 2 {
					if mask&1 == 1 {
						a.Steps = append(a.Steps, impl.Step{From: from, Act: act, To: to})
					}
					mask >>= 1
				}
			}
		}
		if wantedOk(a) {
			all = append(all, a)
		}
	}
	return all
}

// Promise 5, over all two automata of two states that share all: an action each way.
func TestAllSmallTalkers(t *testing.T) {
	for i, a := range smallTalkers(0, 1) {
		for j, b := range smallTalkers(1, 0) {
			a.Init, b.Init = (i+j)%2, (i/2+j/3)%2
			checkAllIsHeard(t, a, b, checkTalk(t, a, b))
		}
	}
}

// Promise 5, over all two automata of two states of which one hears the other, and each has a matter of its own.
func TestAllSmallTalkersWithAMatterOfTheirOwn(t *testing.T) {
	for i, a := range smallTalkers(0, 1) {
		for j, b := range smallTalkers(1, 2) {
			a.Init, b.Init = (i+j)%2, (i/2+j/3)%2
			checkAllIsHeard(t, a, b, checkTalk(t, a, b))
		}
	}
}

// Promise 5, over all ways in which three states may lead to one another by no step, an input, an output or a hidden one.
func TestBadOfAllWalksOfThreeStates(t *testing.T) {
	b := impl.Ia{States: 1, Ins: []int{11}}
	for mask := range 1 << 12 {
		a := impl.Ia{States: 3, Init: mask % 3, Ins: []int{0, 1, 2}, Outs: []int{3, 11}, Hids: []int{4}}
		kinds := mask
		for from := range 3 {
			for to := range 3 {
				if from == to {
					continue
				}
				// Each input has its own To, so that there is but one of one From.
				if act := []int{-1, to, 3, 4}[kinds&3]; act >= 0 {
					a.Steps = append(a.Steps, impl.Step{From: from, Act: act, To: to})
				}
				kinds >>= 2
			}
		}
		a = withSteps(a, [3]int{2, 11, 0})
		slices.SortFunc(a.Steps, func(x, y impl.Step) int { return slices.Compare(numbersOf(x), numbersOf(y)) })
		checkAllIsHeard(t, a, b, checkTalk(t, a, b))
	}
}

// drawnTalkers mostly Fit; each action is of one of both, or of both, as the roles say.
func drawnTalkers(d *draws, count int) (impl.Ia, impl.Ia) {
	var a, b impl.Ia
	for act := range 12 {
		switch d.below(10) {
		case 0, 1:
			a.Ins, b.Outs = append(a.Ins, act), append(b.Outs, act)
		case 2, 3:
			a.Outs, b.Ins = append(a.Outs, act), append(b.Ins, act)
		case 4:
			a.Ins = append(a.Ins, act)
		case 5:
			b.Outs = append(b.Outs, act)
		case 6:
			a.Hids = append(a.Hids, act)
		case 7:
			b.Hids = append(b.Hids, act)
		case 8:
			b.Ins = append(b.Ins, act)
		}
	}
	a.States = 1 + d.below(8)
	b.States = 1 + d.below(40/a.States)
	a.Init, b.Init = d.below(a.States), d.below(b.States)
	// One that takes nearly always what it may take does not clash at once.
	drawSteps(d, &a, count)
	drawSteps(d, &b, count)
	return a, b
}

func drawSteps(d *draws, a *impl.Ia, count int) {
	for s := range a.States {
		for _, act := range a.Ins {
			if d.below(20) > 0 {
				a.Steps = append(a.Steps, impl.Step{From: s, Act: act, To: d.below(a.States)})
			}
		}
	}
	if others := slices.Concat(a.Outs, a.Hids); len(others) > 0 {
		for range count {
			a.Steps = append(a.Steps, impl.Step{From: d.below(a.States), Act: others[d.below(len(others))], To: d.below(a.States)})
		}
	}
	slices.SortFunc(a.Steps, func(x, y impl.Step) int { return slices.Compare(numbersOf(x), numbersOf(y)) })
	a.Steps = slices.Compact(a.Steps)
}

func TestDrawnTalkers(t *testing.T) {
	d := draws(51)
	count := map[string]int{}
	for i := range 700 {
		a, b := drawnTalkers(&d, []int{1, 3, 6, 60}[i%4])
		got := checkTalk(t, a, b)
		checkAllIsHeard(t, a, b, got)
		switch {
		case !got.fit:
			t.Fatalf("drawn, but they do not Fit: %+v, %+v", a, b)
		case !got.isProduct:
			count["too many steps"]++
		case !got.compatible && occurs(got.clashes, got.product.Init):
			count["a clash at the beginning"]++
		case !got.compatible:
			count["bad at the beginning"]++
		case len(got.bad) == 0:
			count["nothing bad"]++
		case len(got.bad) > len(got.clashes):
			count["bad beside the clashes"]++
		default:
			count["clashes alone"]++
		}
	}
	for _, kind := range []string{"too many steps", "a clash at the beginning", "bad at the beginning", "nothing bad", "bad beside the clashes", "clashes alone"} {
		if count[kind] < 10 {
			t.Fatalf("%v: too few of %q to tell", count, kind)
		}
	}
}

// Automata drawn with no look at one another fit seldom; where one is spoilt, too, nothing is told.
func TestSpoiltTalkers(t *testing.T) {
	d := draws(52)
	fit := 0
	for i := range 1500 {
		a, b := drawnTalkers(&d, 3)
		a.States, a.Init = max(a.States, 3), min(a.Init, 2)
		switch i % 3 {
		case 0:
			spoil(&d, &a)
		case 1:
			spoil(&d, &b)
		case 2:
			b = drawnIa(&d, 1+d.below(7), 6)
		}
		if checkTalk(t, a, b).fit {
			fit++
		}
	}
	if fit < 100 || fit > 1400 {
		t.Fatalf("%d of 1500 Fit: too few of one kind to tell", fit)
	}
}

// talkersForMemory has two of each outcome: that do not Fit, have no Product, clash, or are Composed.
func talkersForMemory() map[string][2]impl.Ia {
	all := map[string][2]impl.Ia{
		"asker, answerer":     {asker(), answerer()},
		"bad at beginning":    {walker(3, [3]int{0, 2, 1}, [3]int{1, 4, 2}), deafTo11()},
		"an input goes":       {walker(4, [3]int{0, 0, 1}, [3]int{0, 1, 2}, [3]int{1, 6, 3}), deafTo11()},
		"nothing shared":      {whisperer(), {States: 2, Init: 1, Ins: []int{3, 4}, Outs: []int{6, 8}, Hids: []int{9}}},
		"the other is alone":  {{States: 1}, talker()},
		"one is alone":        {talker(), {States: 1}},
		"both are alone":      {{States: 1}, {States: 1}},
		"too many steps":      {crowded(400), withSteps(impl.Ia{States: 1, Ins: []int{6}, Hids: []int{0}}, [3]int{0, 0, 0}, [3]int{0, 6, 0})},
		"just as many steps":  {crowded(400), withSteps(impl.Ia{States: 1, Ins: []int{6}}, [3]int{0, 6, 0})},
		"the same":            {talker(), talker()},
		"too many states":     {{States: 7}, {States: 6}},
		"one is not right":    {{States: 1, Ins: []int{2, 1}}, asker()},
		"the other is not":    {asker(), {States: 1, Steps: []impl.Step{{From: 0, Act: 3, To: 0}}}},
		"empty lists":         {{States: 1, Ins: []int{}, Outs: []int{}, Hids: []int{}, Steps: []impl.Step{}}, {States: 1, Ins: []int{}}},
		"sets without a step": {{States: 2, Ins: []int{1, 4}, Outs: []int{0, 5}, Hids: []int{2, 7}}, {States: 2, Ins: []int{0, 6}, Outs: []int{1, 9}, Hids: []int{3}}},
	}
	d := draws(53)
	for i := range 60 {
		a, b := drawnTalkers(&d, 4)
		all[fmt.Sprint("drawn ", i)] = [2]impl.Ia{a, b}
	}
	return all
}

func TestTalkersAreLeftAsTheyAre(t *testing.T) {
	for name, was := range talkersForMemory() {
		a, b := roomyIa(was[0]), roomyIa(was[1])
		got := talkOf(a, b)
		impl.PairOf(b, 5)
		checkIaUntouched(t, name, a, was[0])
		checkIaUntouched(t, name, b, was[1])
		got.scribble()
		checkIaUntouched(t, name+", answers written over", a, was[0])
		checkIaUntouched(t, name+", answers written over", b, was[1])
	}
}

func TestTalkSharesNoMemoryWithArguments(t *testing.T) {
	for name, was := range talkersForMemory() {
		a, b := roomyIa(was[0]), roomyIa(was[1])
		got := talkOf(a, b)
		want := got.clone()
		scribbleIa(a)
		scribbleIa(b)
		if function := got.differs(want); function != "" {
			t.Fatalf("%s: the answer of %s shares memory with an argument", name, function)
		}
	}
}

// checkListsApart writes over each list of an answer in turn: the others stay as they are.
func checkListsApart(t *testing.T, what string, answer func() impl.Ia) {
	t.Helper()
	want := cloneIa(answer())
	for i := range 4 {
		got, left := answer(), cloneIa(want)
		switch i {
		case 0:
			scribble(got.Ins)
			got.Ins, left.Ins = nil, nil
		case 1:
			scribble(got.Outs)
			got.Outs, left.Outs = nil, nil
		case 2:
			scribble(got.Hids)
			got.Hids, left.Hids = nil, nil
		case 3:
			scribbleOf(got.Steps, sentinelStep)
			got.Steps, left.Steps = nil, nil
		}
		if !sameIa(got, left) {
			t.Fatalf("%s: two lists of one answer share memory: %+v, want %+v", what, got, left)
		}
	}
}

func TestListsOfProductsShareNoMemory(t *testing.T) {
	for name, x := range talkersForMemory() {
		checkListsApart(t, name+", Product", func() impl.Ia {
			product, _ := impl.Product(x[0], x[1])
			return product
		})
		checkListsApart(t, name+", Composed", func() impl.Ia {
			composed, _ := impl.Composed(x[0], x[1])
			return composed
		})
	}
}

// No call keeps anything: an answer that is written over is not told again.
func TestNoTalkIsKeptForAnother(t *testing.T) {
	for _, x := range talkersForMemory() {
		for range 3 {
			got := talkOf(x[0], x[1])
			if function := got.differs(wantedTalk(x[0], x[1])); function != "" {
				t.Fatalf("%s of %+v: %+v", function, x, got)
			}
			got.scribble()
		}
	}
}

// The lists of both may lie in one piece of memory, each in the room behind another, or be the same one.
func TestTalkersInOnePiece(t *testing.T) {
	was := []int{0, 5, 1, 11, 2}
	piece := slices.Clone(was)
	a := talker()
	a.Ins, a.Outs, a.Hids = piece[:2], piece[2:4], piece[4:]
	b := withSteps(impl.Ia{States: 2, Ins: piece[2:4], Outs: piece[:2]}, [3]int{0, 1, 1}, [3]int{0, 5, 0}, [3]int{1, 11, 0})
	b.Ins, b.Outs = piece[2:4], piece[:2]
	got := checkTalk(t, a, b)
	if !slices.Equal(piece, was) || !slices.Equal(got.shared, []int{0, 1, 5, 11}) {
		t.Fatal(piece, got.shared)
	}
	got.scribble()
	if !slices.Equal(piece, was) {
		t.Fatal("an answer shares memory with an argument", piece)
	}
	checkTalk(t, a, b)
}

func TestTalkDoesNotReadSpareRoom(t *testing.T) {
	a := withSteps(impl.Ia{States: 2, Ins: []int{1, 4}, Outs: []int{0, 5}, Hids: []int{6, 7}}, [3]int{0, 0, 1}, [3]int{1, 1, 0}, [3]int{1, 5, 0})
	b := withSteps(impl.Ia{States: 2, Ins: []int{0, 4}, Outs: []int{1, 5}, Hids: []int{6, 7}}, [3]int{0, 0, 1}, [3]int{1, 1, 0}, [3]int{1, 6, 1})
	checkNoTalk(t, "with what is to lie behind", a, b)
	for _, x := range []*impl.Ia{&a, &b} {
		x.Ins, x.Outs, x.Hids, x.Steps = x.Ins[:1], x.Outs[:1], x.Hids[:0], x.Steps[:2]
	}
	want := withSteps(impl.Ia{States: 4, Hids: []int{0, 1}}, [3]int{0, 0, 3}, [3]int{3, 1, 0})
	if got := checkTalk(t, a, b); !sameIa(got.product, want) || !slices.Equal(got.clashes, []int{1}) {
		t.Fatalf("%+v", got)
	}
}
