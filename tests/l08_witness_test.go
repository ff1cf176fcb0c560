package tests

import (
	"fmt"
	"math"
	"math/big"
	"runtime"
	"slices"
	"strings"
	"sync"
	"testing"
	"time"

	"loop.example/g00645/impl"
)

// away tells of each state by how many steps of the product, none with Ins, a clash may be come to; -1 where by none.
func (x talk) away() []int {
	away := make([]int, x.product.States)
	for s := range away {
		if !occurs(x.clashes, s) {
			away[s] = -1
		}
	}
	for n := range away {
		for _, y := range x.product.Steps {
			if kindOf(x.product, y.Act) != "in" && away[y.From] < 0 && away[y.To] == n {
				away[y.From] = n + 1
			}
		}
	}
	return away
}

// witness goes from Init on along the first step that brings it nearer to a clash. What is found in order is found by the
// first of the shortest rows, the nearest ones ahead, and of these the one whose row is the first: this is that row.
func (x talk) witness() ([]impl.Step, bool) {
	if !x.isProduct || x.away()[x.product.Init] < 0 {
		return nil, false
	}
	var row []impl.Step
	away := x.away()
	for at := x.product.Init; away[at] > 0; at = row[len(row)-1].To {
		nearer := func(y impl.Step) bool {
			return y.From == at && kindOf(x.product, y.Act) != "in" && away[y.To] == away[at]-1
		}
		row = append(row, x.product.Steps[slices.IndexFunc(x.product.Steps, nearer)])
	}
	return row, true
}

func (x talk) isWitness(row []impl.Step) bool {
	if !x.isProduct {
		return false
	}
	at := []int{x.product.Init}
	for i, y := range row {
		if y.From != at[i] || kindOf(x.product, y.Act) == "in" || !slices.Contains(x.product.Steps, y) {
			return false
		}
		at = append(at, y.To)
	}
	return occurs(x.clashes, at[len(row)])
}

// wander goes along drawn steps of the product, now and then along one that does not hang together with the others.
func (x talk) wander(d *draws, length int) []impl.Step {
	var row []impl.Step
	at := x.product.Init
	for len(row) < length && len(x.product.Steps) > 0 {
		fits := slices.DeleteFunc(slices.Clone(x.product.Steps), func(y impl.Step) bool { return y.From != at })
		if d.below(25) == 0 {
			fits = x.product.Steps
		}
		if len(fits) == 0 {
			break
		}
		row = append(row, fits[d.below(len(fits))])
		at = row[len(row)-1].To
	}
	return row
}

// rowsNear are made of one row: cut, with one step more, less or another one, twice, the other way round.
func (x talk) rowsNear(row []impl.Step) [][]impl.Step {
	rows := [][]impl.Step{nil, {}, row, slices.Concat(row, row)}
	for _, y := range x.product.Steps {
		rows = append(rows, slices.Concat(row, []impl.Step{y}), slices.Concat([]impl.Step{y}, row))
	}
	for i, y := range row {
		rows = append(rows, row[:i], row[i:], slices.Concat(row[:i], row[i+1:]), slices.Concat(row[:i+1], row[i:]))
		for _, z := range []impl.Step{
			{From: y.From + 1, Act: y.Act, To: y.To}, {From: y.From, Act: y.Act + 1, To: y.To}, {From: y.From, Act: y.Act, To: y.To + 1},
			{From: y.From - 1, Act: y.Act, To: y.To}, {From: y.From, Act: y.Act - 1, To: y.To}, {From: y.From, Act: y.Act, To: y.To - 1},
		} {
			rows = append(rows, slices.Concat(row[:i], []impl.Step{z}, row[i+1:]))
		}
	}
	back := slices.Clone(row)
	slices.Reverse(back)
	return append(rows, back)
}

// checkRows holds WitnessOk against the reference and tells how many of the rows are right.
func (x talk) checkRows(t *testing.T, a impl.Ia, b impl.Ia, rows [][]impl.Step) int {
	t.Helper()
	right := 0
	for _, row := range rows {
		want := x.isWitness(row)
		if got := impl.WitnessOk(a, b, row); got != want {
			t.Fatalf("WitnessOk(%+v, %+v, %v) = %v", a, b, row, got)
		}
		if want {
			right++
		}
	}
	return right
}

// checkLeadsToClash is the first part of promise 8, asked of the program alone.
func checkLeadsToClash(t *testing.T, a impl.Ia, b impl.Ia) {
	t.Helper()
	product, ok := impl.Product(a, b)
	row, has := impl.Witness(a, b)
	if has != (ok && !impl.Compatible(a, b)) || !has && len(row) > 0 {
		t.Fatalf("of %+v and %+v: Product %v, Compatible %v, but Witness %v, %v", a, b, ok, impl.Compatible(a, b), row, has)
	}
	if !has {
		return
	}
	if !impl.WitnessOk(a, b, row) {
		t.Fatalf("of %+v and %+v: Witness %v is not WitnessOk", a, b, row)
	}
	at := product.Init
	for _, x := range row {
		if x.From != at || !impl.SetHas(impl.After(product, at, x.Act), x.To) || impl.SetHas(product.Ins, x.Act) {
			t.Fatalf("of %+v and %+v: Witness %v has the step %+v", a, b, row, x)
		}
		at = x.To
	}
	if !impl.SetHas(impl.Clashes(a, b), at) {
		t.Fatalf("of %+v and %+v: Witness %v leads to no clash", a, b, row)
	}
}

// checkWitness holds Witness, and WitnessOk of some rows, against the reference and against promise 8.
func checkWitness(t *testing.T, a impl.Ia, b impl.Ia) talk {
	t.Helper()
	w := wantedTalk(a, b)
	want, has := w.witness()
	row, ok := impl.Witness(a, b)
	if ok != has || !slices.Equal(row, want) {
		t.Fatalf("Witness(%+v, %+v) = %v, %v, want %v, %v", a, b, row, ok, want, has)
	}
	checkLeadsToClash(t, a, b)
	rows := [][]impl.Step{nil, want}
	for i := range want {
		rows = append(rows, want[:i])
	}
	w.checkRows(t, a, b, rows)
	return w
}

// checkWitnessAnyWay asks in both orders, and of many rows.
func checkWitnessAnyWay(t *testing.T, a impl.Ia, b impl.Ia) talk {
	t.Helper()
	d := draws(8)
	for _, order := range [][2]impl.Ia{{b, a}, {a, b}} {
		w := checkWitness(t, order[0], order[1])
		row, _ := w.witness()
		w.checkRows(t, order[0], order[1], w.rowsNear(row))
		for n := range 10 {
			w.checkRows(t, order[0], order[1], [][]impl.Step{w.wander(&d, n)})
		}
	}
	return wantedTalk(a, b)
}

// checkNoWitness fails if two whose Product is false have a witness, or a row that is one.
func checkNoWitness(t *testing.T, what string, a impl.Ia, b impl.Ia) {
	t.Helper()
	for _, order := range [][2]impl.Ia{{a, b}, {b, a}} {
		if row, ok := impl.Witness(order[0], order[1]); ok || len(row) > 0 {
			t.Errorf("%s: Witness %v, %v", what, row, ok)
		}
		for _, row := range [][]impl.Step{nil, {}, {{}}, {{From: 0, Act: 6, To: 0}}, a.Steps, b.Steps} {
			if impl.WitnessOk(order[0], order[1], row) {
				t.Errorf("%s: WitnessOk of %v", what, row)
			}
		}
	}
}

func stepsOf(list ...[3]int) []impl.Step {
	var steps []impl.Step
	for _, x := range list {
		steps = append(steps, impl.Step{From: x[0], Act: x[1], To: x[2]})
	}
	return steps
}

// clashingAt says 11 in these states, too.
func clashingAt(a impl.Ia, states ...int) impl.Ia {
	for _, s := range states {
		a = withStep(a, impl.Step{From: s, Act: 11, To: 0})
	}
	return a
}

type witnessCase struct {
	name string
	a    impl.Ia
	want []impl.Step
	ok   bool
}

// walkerCases go with deafTo11, so that the clashes are the states that say 11.
func walkerCases() []witnessCase {
	from := func(init int, a impl.Ia) impl.Ia {
		a.Init = init
		return a
	}
	return []witnessCase{
		{"Init is the clash", walker(1), nil, true},
		{"Init is the clash, with a step behind it", from(2, walker(3, [3]int{2, 2, 0})), nil, true},
		{"Init is the clash and goes on", from(2, walker(3, [3]int{0, 2, 1}, [3]int{2, 2, 0})), nil, true},
		{"Init is the clash and goes to itself", from(1, walker(2, [3]int{1, 2, 1})), nil, true},
		{"Init is one of two, the greater one", from(2, clashingAt(walker(3, [3]int{2, 2, 0}), 0)), nil, true},
		{"Init is one of two, the lesser one", clashingAt(walker(3, [3]int{0, 2, 2}), 0), nil, true},
		{"no way", walker(3, [3]int{0, 2, 1}), nil, false},
		{"one step, by an output", walker(2, [3]int{0, 2, 1}), stepsOf([3]int{0, 2, 1}), true},
		{"one step, by what is hidden", walker(2, [3]int{0, 4, 1}), stepsOf([3]int{0, 4, 1}), true},
		{"one step, by what is shared", walker(2, [3]int{0, 6, 1}), stepsOf([3]int{0, 6, 1}), true},
		{"one step, not from the first state", from(1, walker(3, [3]int{0, 2, 2}, [3]int{1, 4, 2})), stepsOf([3]int{1, 4, 2}), true},
		{"by an input alone", walker(2, [3]int{0, 0, 1}), nil, false},
		{"by inputs alone", walker(2, [3]int{0, 0, 1}, [3]int{0, 1, 1}), nil, false},
		{"by an input behind an output", walker(3, [3]int{0, 2, 1}, [3]int{1, 0, 2}), nil, false},
		{"by an output behind an input", walker(3, [3]int{0, 0, 1}, [3]int{1, 2, 2}), nil, false},
		{"by an input, and by an output", walker(2, [3]int{0, 0, 1}, [3]int{0, 2, 1}), stepsOf([3]int{0, 2, 1}), true},
		{"by an input, and a longer way round", walker(4, [3]int{0, 0, 3}, [3]int{0, 5, 2}, [3]int{1, 2, 3}, [3]int{2, 2, 1}), stepsOf([3]int{0, 5, 2}, [3]int{2, 2, 1}, [3]int{1, 2, 3}), true},
		{"by an input, and a longer way", walker(4, [3]int{0, 0, 3}, [3]int{0, 5, 1}, [3]int{1, 2, 2}, [3]int{2, 3, 3}), stepsOf([3]int{0, 5, 1}, [3]int{1, 2, 2}, [3]int{2, 3, 3}), true},
		{"several steps, one of each kind", walker(4, [3]int{0, 2, 1}, [3]int{1, 4, 2}, [3]int{2, 6, 3}), stepsOf([3]int{0, 2, 1}, [3]int{1, 4, 2}, [3]int{2, 6, 3}), true},
		{"several steps, against the order", from(1, walker(5, [3]int{0, 4, 4}, [3]int{1, 5, 3}, [3]int{2, 3, 0}, [3]int{3, 2, 2})), stepsOf([3]int{1, 5, 3}, [3]int{3, 2, 2}, [3]int{2, 3, 0}, [3]int{0, 4, 4}), true},
		{"the short way, though the long one's actions are less", walker(4, [3]int{0, 2, 1}, [3]int{0, 6, 3}, [3]int{1, 2, 3}), stepsOf([3]int{0, 6, 3}), true},
		{"steps to itself on the way", walker(3, [3]int{0, 2, 0}, [3]int{0, 4, 1}, [3]int{1, 2, 1}, [3]int{1, 3, 2}), stepsOf([3]int{0, 4, 1}, [3]int{1, 3, 2}), true},
		{"a circle on the way", walker(4, [3]int{0, 2, 1}, [3]int{1, 2, 2}, [3]int{2, 2, 0}, [3]int{2, 4, 3}), stepsOf([3]int{0, 2, 1}, [3]int{1, 2, 2}, [3]int{2, 4, 3}), true},
		{"a circle alone", walker(4, [3]int{0, 2, 1}, [3]int{1, 2, 2}, [3]int{2, 2, 0}), nil, false},

		{"two rows, two states in between", walker(4, [3]int{0, 2, 1}, [3]int{0, 3, 2}, [3]int{1, 5, 3}, [3]int{2, 2, 3}), stepsOf([3]int{0, 2, 1}, [3]int{1, 5, 3}), true},
		{"two rows, the greater state is found first", walker(4, [3]int{0, 2, 2}, [3]int{0, 3, 1}, [3]int{1, 2, 3}, [3]int{2, 5, 3}), stepsOf([3]int{0, 2, 2}, [3]int{2, 5, 3}), true},
		{"two rows, two actions", walker(2, [3]int{0, 3, 1}, [3]int{0, 4, 1}), stepsOf([3]int{0, 3, 1}), true},
		{"two rows, two actions later on", walker(3, [3]int{0, 3, 1}, [3]int{0, 4, 1}, [3]int{1, 4, 2}, [3]int{1, 5, 2}), stepsOf([3]int{0, 3, 1}, [3]int{1, 4, 2}), true},
		{"two rows, an output with two Tos", walker(4, [3]int{0, 2, 1}, [3]int{0, 2, 2}, [3]int{1, 3, 3}, [3]int{2, 2, 3}), stepsOf([3]int{0, 2, 1}, [3]int{1, 3, 3}), true},
		{"two rows, the first one's state is known by an input, too", walker(4, [3]int{0, 0, 2}, [3]int{0, 2, 1}, [3]int{0, 3, 2}, [3]int{1, 5, 3}, [3]int{2, 2, 3}), stepsOf([3]int{0, 2, 1}, [3]int{1, 5, 3}), true},

		{"two clashes, the greater one by the lesser action", clashingAt(walker(3, [3]int{0, 2, 2}, [3]int{0, 3, 1}), 1), stepsOf([3]int{0, 2, 2}), true},
		{"two clashes, the lesser one by the lesser action", clashingAt(walker(3, [3]int{0, 2, 1}, [3]int{0, 3, 2}), 1), stepsOf([3]int{0, 2, 1}), true},
		{"two clashes, one action", clashingAt(walker(3, [3]int{0, 2, 1}, [3]int{0, 2, 2}), 1), stepsOf([3]int{0, 2, 1}), true},
		{"two clashes, the greater one is nearer", clashingAt(walker(4, [3]int{0, 2, 2}, [3]int{0, 3, 3}, [3]int{2, 2, 1}), 1), stepsOf([3]int{0, 3, 3}), true},
		{"two clashes, the greater one by the state that was found first", clashingAt(walker(5, [3]int{0, 2, 2}, [3]int{0, 3, 1}, [3]int{1, 2, 3}, [3]int{2, 6, 4}), 3), stepsOf([3]int{0, 2, 2}, [3]int{2, 6, 4}), true},
		{"two clashes, three steps away both", clashingAt(walker(7, [3]int{0, 2, 4}, [3]int{0, 4, 1}, [3]int{1, 2, 2}, [3]int{2, 2, 5}, [3]int{3, 6, 6}, [3]int{4, 5, 3}), 5), stepsOf([3]int{0, 2, 4}, [3]int{4, 5, 3}, [3]int{3, 6, 6}), true},
		{"two clashes, one behind the other", clashingAt(walker(3, [3]int{0, 2, 2}, [3]int{2, 2, 1}), 1), stepsOf([3]int{0, 2, 2}), true},
		{"two clashes, one by an input alone", clashingAt(walker(3, [3]int{0, 0, 1}, [3]int{0, 6, 2}), 1), stepsOf([3]int{0, 6, 2}), true},
	}
}

func TestWitnessByHand(t *testing.T) {
	for _, x := range walkerCases() {
		if !wantedFit(x.a, deafTo11()) {
			t.Fatalf("%s: they do not Fit: %+v", x.name, x.a)
		}
		// With one state on the other side, the states of the product are the same in both orders.
		for _, order := range [][2]impl.Ia{{x.a, deafTo11()}, {deafTo11(), x.a}} {
			row, ok := impl.Witness(order[0], order[1])
			if ok != x.ok || !slices.Equal(row, x.want) {
				t.Errorf("%s: Witness %v, %v, want %v, %v", x.name, row, ok, x.want, x.ok)
			}
		}
		for init := range x.a.States {
			x.a.Init = init
			checkWitnessAnyWay(t, x.a, deafTo11())
		}
	}
}

// eager says 0 whenever it may, and takes 1 never.
func eager() impl.Ia {
	return withSteps(impl.Ia{States: 1, Ins: []int{1}, Outs: []int{0}}, [3]int{0, 0, 0})
}

func TestWitnessWhereBothGo(t *testing.T) {
	p := withSteps(impl.Ia{States: 2, Ins: []int{0}, Outs: []int{1}}, [3]int{0, 0, 1}, [3]int{1, 1, 0})
	asking := walker(3, [3]int{0, 0, 1}, [3]int{1, 1, 2})
	says := func(states int, steps ...[3]int) impl.Ia {
		return withSteps(impl.Ia{States: states, Ins: []int{11}, Outs: []int{0, 1}}, steps...)
	}
	tests := []struct {
		name string
		a, b impl.Ia
		want []impl.Step
		ok   bool
	}{
		{"one that does not wait", p, eager(), stepsOf([3]int{0, 0, 1}), true},
		{"one that does not wait, the other way round", eager(), p, stepsOf([3]int{0, 0, 1}), true},
		{"one that waits", p, withSteps(impl.Ia{States: 2, Ins: []int{1}, Outs: []int{0}}, [3]int{0, 0, 1}, [3]int{1, 1, 0}), nil, false},
		{"asker and answerer", asker(), answerer(), stepsOf([3]int{0, 0, 4}, [3]int{4, 1, 2}), true},
		{"answerer and asker", answerer(), asker(), stepsOf([3]int{0, 0, 3}, [3]int{3, 1, 4}), true},
		{"what it takes is not said", asking, says(2, [3]int{1, 0, 0}), nil, false},
		{"what it takes is said once", asking, says(2, [3]int{0, 0, 1}), nil, false},
		{"what it takes is said twice", asking, says(3, [3]int{0, 0, 1}, [3]int{1, 1, 2}), stepsOf([3]int{0, 0, 4}, [3]int{4, 1, 8}), true},
		{"what it takes is said at the wrong time", asking, says(3, [3]int{0, 0, 1}, [3]int{1, 0, 2}), stepsOf([3]int{0, 0, 4}), true},
		{"both begin elsewhere", changed(asking, func(a *impl.Ia) { a.Init = 1 }), changed(says(3, [3]int{0, 0, 1}, [3]int{1, 1, 2}), func(a *impl.Ia) { a.Init = 1 }), stepsOf([3]int{4, 1, 8}), true},
		// In its state 1, b says 11, which a does not take there, or anywhere.
		{"a matter of b's own", impl.Ia{States: 2, Ins: []int{11}, Outs: []int{5}}, withSteps(impl.Ia{States: 2, Outs: []int{11}, Hids: []int{7}}, [3]int{0, 7, 1}, [3]int{1, 11, 0}), stepsOf([3]int{0, 7, 1}), true},
		{"a matter of a's own ahead of b's", withSteps(impl.Ia{States: 2, Ins: []int{11}, Outs: []int{5}}, [3]int{0, 5, 1}), withSteps(impl.Ia{States: 2, Outs: []int{11}, Hids: []int{7}}, [3]int{0, 7, 1}, [3]int{1, 11, 0}), stepsOf([3]int{0, 7, 1}), true},
		{"two matters, either first", withSteps(impl.Ia{States: 2, Ins: []int{11}, Outs: []int{5}}, [3]int{0, 5, 1}, [3]int{0, 11, 0}), withSteps(impl.Ia{States: 2, Outs: []int{11}, Hids: []int{7}}, [3]int{0, 7, 1}, [3]int{1, 11, 0}), stepsOf([3]int{0, 5, 2}, [3]int{2, 7, 3}), true},
		{"two matters, either first, with the actions the other way round", withSteps(impl.Ia{States: 2, Ins: []int{11}, Outs: []int{7}}, [3]int{0, 7, 1}, [3]int{0, 11, 0}), withSteps(impl.Ia{States: 2, Outs: []int{11}, Hids: []int{5}}, [3]int{0, 5, 1}, [3]int{1, 11, 0}), stepsOf([3]int{0, 5, 1}, [3]int{1, 7, 3}), true},
		{"two that have nothing to do with one another", whisperer(), impl.Ia{States: 2, Ins: []int{3}, Outs: []int{4}}, nil, false},
		{"one state each, no actions", impl.Ia{States: 1}, impl.Ia{States: 1}, nil, false},
	}
	for _, x := range tests {
		if !wantedFit(x.a, x.b) {
			t.Fatalf("%s: they do not Fit: %+v, %+v", x.name, x.a, x.b)
		}
		row, ok := impl.Witness(x.a, x.b)
		if ok != x.ok || !slices.Equal(row, x.want) {
			t.Errorf("%s: Witness %v, %v, want %v, %v", x.name, row, ok, x.want, x.ok)
		}
		checkWitnessAnyWay(t, x.a, x.b)
	}
}

func TestNoWitnessWithoutProduct(t *testing.T) {
	says, deaf := withSteps(impl.Ia{States: 1, Outs: []int{6}}, [3]int{0, 6, 0}), impl.Ia{States: 1, Ins: []int{6}}
	if row, ok := impl.Witness(says, deaf); !ok || len(row) > 0 || !impl.WitnessOk(says, deaf, nil) {
		t.Fatal("these clash at the beginning", row, ok)
	}
	with := func(a impl.Ia, change func(a *impl.Ia)) impl.Ia { return changed(a, change) }
	checkNoWitness(t, "42 states", with(says, func(a *impl.Ia) { a.States = 7 }), with(deaf, func(a *impl.Ia) { a.States = 6 }))
	checkNoWitness(t, "in Ins of both", with(says, func(a *impl.Ia) { a.Ins = []int{0} }), with(deaf, func(a *impl.Ia) { a.Ins = []int{0, 6} }))
	checkNoWitness(t, "in Outs of both", with(says, func(a *impl.Ia) { a.Outs = []int{0, 6} }), with(deaf, func(a *impl.Ia) { a.Outs = []int{0} }))
	checkNoWitness(t, "in Hids of one", with(says, func(a *impl.Ia) { a.Hids = []int{0} }), with(deaf, func(a *impl.Ia) { a.Outs = []int{0} }))
	checkNoWitness(t, "one with itself", says, says)
	checkNoWitness(t, "no states", with(says, func(a *impl.Ia) { a.States = 0 }), deaf)
	checkNoWitness(t, "zero values", impl.Ia{}, impl.Ia{})
	// These Fit, and clash at the beginning, but there is too much else; with one step less it is told.
	loud := impl.Ia{States: 20, Init: 19, Outs: []int{6}, Hids: []int{1}}
	for i := range 201 {
		loud.Steps = append(loud.Steps, impl.Step{From: i / 20, Act: 1, To: i % 20})
	}
	loud = withSteps(loud, [3]int{19, 6, 0})
	deaf.States = 2
	if !impl.Fit(loud, deaf) || wantedCount(loud, deaf) != 402 || !slices.Equal(impl.Clashes(loud, deaf), []int{38, 39}) {
		t.Fatal("these are to Fit and to clash", wantedCount(loud, deaf))
	}
	checkNoWitness(t, "too many steps", loud, deaf)
	checkWitness(t, loud, deaf)
	loud.Steps = loud.Steps[1:]
	if row, ok := impl.Witness(loud, deaf); !ok || len(row) > 0 || !impl.WitnessOk(loud, deaf, nil) {
		t.Fatal("400 steps", row, ok)
	}
	checkWitnessAnyWay(t, loud, deaf)
}

func TestNoWitnessWithWrongAutomata(t *testing.T) {
	for name, wrong := range wrongAutomata() {
		checkNoWitness(t, name, wrong, impl.Ia{States: 1})
		checkNoWitness(t, name+", with one that is deaf", wrong, impl.Ia{States: 1, Ins: wrong.Outs})
		checkNoWitness(t, name+", with one that says", wrong, impl.Ia{States: 1, Outs: []int{9}, Steps: []impl.Step{{From: 0, Act: 9, To: 0}}})
		checkNoWitness(t, name+", with itself", wrong, wrong)
	}
}

func TestWitnessOkByHand(t *testing.T) {
	// The clashes are 4 and 5; 5 may be come to by an input alone.
	a := walker(6, [3]int{0, 0, 4}, [3]int{0, 2, 1}, [3]int{0, 2, 3}, [3]int{1, 1, 5}, [3]int{1, 2, 2}, [3]int{1, 4, 4}, [3]int{2, 2, 0}, [3]int{3, 0, 1}, [3]int{3, 6, 3},
		[3]int{4, 1, 0}, [3]int{4, 2, 1}, [3]int{4, 5, 4}, [3]int{5, 3, 4})
	a = clashingAt(a, 4)
	type steps = [][3]int
	tests := []struct {
		name string
		row  steps
		want bool
	}{
		{"none", nil, false},
		{"the row of Witness", steps{{0, 2, 1}, {1, 4, 4}}, true},
		{"cut short", steps{{0, 2, 1}}, false},
		{"without the first step", steps{{1, 4, 4}}, false},
		{"a step more, that leads away", steps{{0, 2, 1}, {1, 4, 4}, {4, 2, 1}}, false},
		{"a step more, that stays at the clash", steps{{0, 2, 1}, {1, 4, 4}, {4, 5, 4}}, true},
		{"a step more, of Ins", steps{{0, 2, 1}, {1, 4, 4}, {4, 1, 0}}, false},
		{"past the clash, and back to it", steps{{0, 2, 1}, {1, 4, 4}, {4, 2, 1}, {1, 4, 4}}, true},
		{"past the clash, and in a circle", steps{{0, 2, 1}, {1, 4, 4}, {4, 2, 1}, {1, 2, 2}}, false},
		{"in a circle first", steps{{0, 2, 1}, {1, 2, 2}, {2, 2, 0}, {0, 2, 1}, {1, 4, 4}}, true},
		{"in a circle alone", steps{{0, 2, 1}, {1, 2, 2}, {2, 2, 0}}, false},
		{"twice, one behind the other", steps{{0, 2, 1}, {1, 4, 4}, {0, 2, 1}, {1, 4, 4}}, false},
		{"the first step twice", steps{{0, 2, 1}, {0, 2, 1}, {1, 4, 4}}, false},
		{"the last step twice", steps{{0, 2, 1}, {1, 4, 4}, {1, 4, 4}}, false},
		{"the other way round", steps{{1, 4, 4}, {0, 2, 1}}, false},
		{"a step in between is missing", steps{{0, 2, 1}, {2, 2, 0}, {0, 2, 1}, {1, 4, 4}}, false},
		{"with Ins, at once", steps{{0, 0, 4}}, false},
		{"with Ins, at the end", steps{{0, 2, 1}, {1, 1, 5}}, false},
		{"with Ins, in between", steps{{0, 2, 3}, {3, 0, 1}, {1, 4, 4}}, false},
		{"with Ins, behind a clash", steps{{0, 2, 1}, {1, 4, 4}, {4, 1, 0}, {0, 2, 1}, {1, 4, 4}}, false},
		{"with what is shared", steps{{0, 2, 3}, {3, 6, 3}}, false},
		{"another one's beginning", steps{{5, 3, 4}}, false},
		{"another To", steps{{0, 2, 4}}, false},
		{"another Act", steps{{0, 3, 4}}, false},
		{"another Act of the last step", steps{{0, 2, 1}, {1, 5, 4}}, false},
		{"the Act of Ins, as an output", steps{{0, 2, 1}, {1, 0, 4}}, false},
		{"what is not taken", steps{{0, 2, 1}, {1, 4, 4}, {4, 11, 0}}, false},
		{"what is not taken, and on from there", steps{{0, 2, 1}, {1, 4, 4}, {4, 11, 0}, {0, 2, 1}, {1, 4, 4}}, false},
		{"From below 0", steps{{-1, 2, 4}}, false},
		{"To past the end", steps{{0, 2, 6}}, false},
		{"To past all ends", steps{{0, 2, 40}}, false},
		{"Act below 0", steps{{0, -1, 4}}, false},
		{"Act past the end", steps{{0, 12, 4}}, false},
		{"the least numbers", steps{{math.MinInt, math.MinInt, math.MinInt}}, false},
		{"the greatest numbers", steps{{math.MaxInt, math.MaxInt, math.MaxInt}}, false},
		{"the least To at the end", steps{{0, 2, 1}, {1, 4, math.MinInt}}, false},
	}
	for _, x := range tests {
		for _, order := range [][2]impl.Ia{{a, deafTo11()}, {deafTo11(), a}} {
			if got := impl.WitnessOk(order[0], order[1], stepsOf(x.row...)); got != x.want {
				t.Errorf("%s: WitnessOk %v", x.name, got)
			}
		}
	}
	w := checkWitnessAnyWay(t, a, deafTo11())
	long := slices.Repeat(stepsOf([3]int{0, 2, 1}, [3]int{1, 2, 2}, [3]int{2, 2, 0}), 100000)
	w.checkRows(t, a, deafTo11(), [][]impl.Step{long[:3000], slices.Concat(long[:3000], stepsOf([3]int{0, 2, 1}, [3]int{1, 4, 4}))})
	if impl.WitnessOk(a, deafTo11(), long) || !impl.WitnessOk(a, deafTo11(), append(long, stepsOf([3]int{0, 2, 1}, [3]int{1, 4, 4})...)) {
		t.Error("a long circle")
	}
	// Where the Init is a clash, no step is needed, but the row that is there has to be right.
	a.Init = 4
	for _, x := range []struct {
		row  steps
		want bool
	}{{nil, true}, {steps{}, true}, {steps{{4, 5, 4}}, true}, {steps{{4, 2, 1}}, false}, {steps{{4, 2, 1}, {1, 4, 4}}, true}, {steps{{4, 1, 0}}, false}, {steps{{0, 2, 1}, {1, 4, 4}}, false}, {steps{{4, 11, 0}}, false}} {
		if got := impl.WitnessOk(a, deafTo11(), stepsOf(x.row...)); got != x.want {
			t.Errorf("from a clash on: WitnessOk of %v is %v", x.row, got)
		}
	}
}

// The states of a row are those of the product: with two on the other side, these are other numbers.
func TestWitnessOkAsksForPairs(t *testing.T) {
	a := walker(3, [3]int{0, 2, 1}, [3]int{1, 4, 2})
	b := withSteps(impl.Ia{States: 2, Init: 1, Ins: []int{6, 11}, Hids: []int{9}}, [3]int{0, 6, 0}, [3]int{1, 9, 0})
	for _, x := range []struct {
		row  []impl.Step
		want bool
	}{
		{stepsOf([3]int{1, 2, 3}, [3]int{3, 4, 5}), true},
		{stepsOf([3]int{1, 2, 3}, [3]int{3, 9, 2}, [3]int{2, 4, 4}), true},
		{stepsOf([3]int{1, 9, 0}, [3]int{0, 2, 2}, [3]int{2, 4, 4}), true},
		{stepsOf([3]int{0, 2, 1}, [3]int{1, 4, 2}), false},
		{stepsOf([3]int{0, 2, 2}, [3]int{2, 4, 4}), false},
		{stepsOf([3]int{1, 2, 2}, [3]int{2, 4, 4}), false},
	} {
		if got := impl.WitnessOk(a, b, x.row); got != x.want {
			t.Errorf("WitnessOk of %v is %v", x.row, got)
		}
	}
	if row, ok := impl.Witness(a, b); !ok || !slices.Equal(row, stepsOf([3]int{1, 2, 3}, [3]int{3, 4, 5})) {
		t.Error(row, ok)
	}
	checkWitnessAnyWay(t, a, b)
}

// Among all rows of up to four steps, the shortest ones ahead, the first that is WitnessOk is the Witness.
func TestWitnessIsTheFirstOfAllRows(t *testing.T) {
	const most = 4
	told, shorter := 0, 0
	for _, x := range walkerCases() {
		product, _ := impl.Product(x.a, deafTo11())
		if len(product.Steps) > 6 {
			continue
		}
		row, ok := impl.Witness(x.a, deafTo11())
		var first []impl.Step
		found := false
		for _, places := range listsOf(upTo(len(product.Steps)), most) {
			var steps []impl.Step
			for _, place := range places {
				steps = append(steps, product.Steps[place])
			}
			if impl.WitnessOk(x.a, deafTo11(), steps) {
				first, found = steps, true
				break
			}
		}
		if found != ok && len(row) <= most || found && !slices.Equal(first, row) {
			t.Fatalf("%s: Witness %v, %v, but the first row is %v, %v", x.name, row, ok, first, found)
		}
		told++
		if found && len(row) > 1 {
			shorter++
		}
	}
	if told < 30 || shorter < 8 {
		t.Fatalf("%d told, %d of them with more than a step", told, shorter)
	}
}

// Promise 8, over all two automata of two states that share all: an action each way.
func TestWitnessOfAllSmallTalkers(t *testing.T) {
	count := map[string]int{}
	for i, a := range smallTalkers(0, 1) {
		for j, b := range smallTalkers(1, 0) {
			a.Init, b.Init = (i+j)%2, (i/2+j/3)%2
			row, has := checkWitness(t, a, b).witness()
			count[fmt.Sprint(has, len(row))]++
		}
	}
	for _, kind := range []string{"false 0", "true 0", "true 1", "true 2"} {
		if count[kind] < 50 {
			t.Fatalf("%v: too few of %q to tell", count, kind)
		}
	}
}

// Promise 8, over all two automata of two states of which one hears the other, and each has a matter of its own.
func TestWitnessOfAllSmallTalkersWithAMatterOfTheirOwn(t *testing.T) {
	count := map[string]int{}
	for i, a := range smallTalkers(0, 1) {
		for j, b := range smallTalkers(1, 2) {
			a.Init, b.Init = (i+j)%2, (i/2+j/3)%2
			row, has := checkWitness(t, a, b).witness()
			count[fmt.Sprint(has, len(row))]++
		}
	}
	for _, kind := range []string{"false 0", "true 0", "true 1"} {
		if count[kind] < 50 {
			t.Fatalf("%v: too few of %q to tell", count, kind)
		}
	}
}

// Promise 8, over all ways in which three states may lead to one another by no step, an input, an output or a hidden one.
func TestWitnessOfAllWalksOfThreeStates(t *testing.T) {
	d := draws(82)
	b := impl.Ia{States: 1, Ins: []int{11}}
	for mask := range 1 << 12 {
		a := impl.Ia{States: 3, Init: mask % 2, Ins: []int{0, 1, 2}, Outs: []int{3, 11}, Hids: []int{4}}
		kinds := mask
		for from := range 3 {
			for to := range 3 {
				if from == to {
					continue
				}
				if act := []int{-1, to, 3, 4}[kinds&3]; act >= 0 {
					a.Steps = append(a.Steps, impl.Step{From: from, Act: act, To: to})
				}
				kinds >>= 2
			}
		}
		a = righted(withSteps(a, [3]int{2, 11, 0}))
		w := checkWitness(t, a, b)
		w.checkRows(t, a, b, [][]impl.Step{w.wander(&d, 1+d.below(5)), w.wander(&d, 1+d.below(9))})
	}
}

func TestWitnessOfDrawnTalkers(t *testing.T) {
	d := draws(83)
	count := map[string]int{}
	for i := range 1500 {
		a, b := drawnTalkers(&d, []int{1, 3, 6, 60}[i%4])
		w := checkWitness(t, a, b)
		row, has := w.witness()
		rows := [][]impl.Step{w.wander(&d, 1+d.below(4)), w.wander(&d, 1+d.below(20))}
		if i%8 == 0 {
			rows = append(rows, w.rowsNear(row)...)
		}
		right := w.checkRows(t, a, b, rows)
		switch {
		case !w.isProduct:
			count["no Product"]++
		case !has:
			count["goes together"]++
		default:
			count[fmt.Sprint("steps: ", min(len(row), 4))]++
			count["other rows that are right"] += right
		}
	}
	for _, kind := range []string{"no Product", "goes together", "steps: 0", "steps: 1", "steps: 2", "steps: 3", "steps: 4", "other rows that are right"} {
		if count[kind] < 20 {
			t.Fatalf("%v: too few of %q to tell", count, kind)
		}
	}
}

// deepTalkers take all that they may take but one action in one state, so that a clash is far away.
func deepTalkers(d *draws) (impl.Ia, impl.Ia) {
	a, b := drawnTalkers(d, 4)
	for _, x := range []*impl.Ia{&a, &b} {
		x.Steps = slices.DeleteFunc(x.Steps, func(y impl.Step) bool { return kindOf(*x, y.Act) == "in" })
		for s := range x.States {
			for _, act := range x.Ins {
				if s < x.States-1 || act != x.Ins[0] {
					x.Steps = append(x.Steps, impl.Step{From: s, Act: act, To: d.below(x.States)})
				}
			}
		}
		*x = righted(*x)
	}
	return a, b
}

func TestWitnessFarAway(t *testing.T) {
	d := draws(84)
	count := map[int]int{}
	for range 1500 {
		a, b := deepTalkers(&d)
		row, _ := checkWitness(t, a, b).witness()
		count[min(len(row), 6)]++
	}
	for n := range 7 {
		if count[n] < 5 {
			t.Fatalf("%v: too few with %d steps to tell", count, n)
		}
	}
}

func TestWitnessOfSpoiltTalkers(t *testing.T) {
	d := draws(85)
	fit := 0
	for i := range 1500 {
		a, b := drawnTalkers(&d, 3)
		switch a.States, a.Init = max(a.States, 3), min(a.Init, 2); i % 3 {
		case 0:
			spoil(&d, &a)
		case 1:
			spoil(&d, &b)
		case 2:
			b = drawnIa(&d, 1+d.below(7), 6)
		}
		w := checkWitness(t, a, b)
		w.checkRows(t, a, b, [][]impl.Step{a.Steps, b.Steps, w.wander(&d, 3)})
		if w.fit {
			fit++
		}
	}
	if fit < 100 || fit > 1400 {
		t.Fatalf("%d of 1500 Fit: too few of one kind to tell", fit)
	}
}

// farWalker has a way of 39 steps to its clash, and hidden steps back to all states that lie behind.
func farWalker(back bool) impl.Ia {
	a := impl.Ia{States: 40, Init: 20, Outs: []int{2, 11}, Hids: []int{5}}
	at := func(n int) int { return (20 + 7*n) % 40 }
	for n := range 39 {
		a = withStep(a, impl.Step{From: at(n), Act: 2, To: at(n + 1)})
		for m := 0; back && m < n && m < 8; m++ {
			a = withStep(a, impl.Step{From: at(n), Act: 5, To: at(m)})
		}
	}
	return withStep(a, impl.Step{From: at(39), Act: 11, To: at(39)})
}

func TestWitnessOfFortyStates(t *testing.T) {
	deaf := impl.Ia{States: 1, Ins: []int{11}}
	for _, back := range []bool{false, true} {
		w := checkWitnessAnyWay(t, farWalker(back), deaf)
		if row, _ := impl.Witness(farWalker(back), deaf); len(row) != 39 || row[0] != (impl.Step{From: 20, Act: 2, To: 27}) || row[38].To != (20+7*39)%40 || w.product.States != 40 {
			t.Fatalf("%d steps: %v", len(row), row)
		}
	}
	// A ring of 8 and one of 5 go round each for itself, one by 3 and the other one by 0: 7 and 4 steps away is where one is not heard.
	turning := changed(ring(8), func(a *impl.Ia) { a.Outs = []int{3, 11} })
	turning = withSteps(turning, [3]int{7, 11, 7})
	listening := impl.Ia{States: 5, Ins: []int{11}, Outs: []int{0}}
	for s := range 5 {
		listening = withSteps(listening, [3]int{s, 0, (s + 1) % 5})
		if s != 4 {
			listening = withSteps(listening, [3]int{s, 11, s})
		}
	}
	w := checkWitnessAnyWay(t, turning, listening)
	if row, ok := impl.Witness(turning, listening); !ok || len(row) != 11 || row[3].Act != 0 || row[4].Act != 3 || row[10].To != 39 || w.product.States != 40 {
		t.Fatal(row, ok)
	}
	// 400 steps, all of them from the first ten states; each of the others is a clash.
	a := crowded(400)
	a.Outs = []int{6, 11}
	a.Steps = a.Steps[:399]
	checkWitnessAnyWay(t, withSteps(a, [3]int{39, 11, 0}), deaf)
	checkWitnessAnyWay(t, withSteps(a, [3]int{9, 11, 0}), deaf)
	a.Init = 30
	checkWitnessAnyWay(t, withSteps(a, [3]int{39, 11, 0}), deaf)
	// All states but Init are clashes, and but the last one may be come to.
	many := withSteps(impl.Ia{States: 40, Outs: []int{2, 11}}, [3]int{0, 2, 39})
	for s := 1; s < 40; s++ {
		many = withSteps(many, [3]int{s, 11, 0})
	}
	if row, ok := impl.Witness(many, deaf); !ok || !slices.Equal(row, stepsOf([3]int{0, 2, 39})) {
		t.Fatal(row, ok)
	}
	checkWitnessAnyWay(t, many, deaf)
	checkWitnessAnyWay(t, row(40), impl.Ia{States: 1, Ins: []int{3}})
	checkWitnessAnyWay(t, row(40), withSteps(impl.Ia{States: 1, Ins: []int{3}}, [3]int{0, 3, 0}))
	d := draws(86)
	for range 60 {
		a := drawnIa(&d, 40, 100)
		b := impl.Ia{States: 1, Ins: a.Outs}
		for _, act := range a.Outs {
			if d.below(4) > 0 {
				b.Steps = append(b.Steps, impl.Step{From: 0, Act: act, To: 0})
			}
		}
		checkWitness(t, a, b)
		checkWitness(t, b, a)
	}
}

// wantedPlay leaves the modulus to numbers of any size, which have one from 0 up.
func wantedPlay(a impl.Ia, picks []int) []impl.Step {
	if !wantedOk(a) {
		return nil
	}
	var made []impl.Step
	at := a.Init
	for _, pick := range picks {
		var from []impl.Step
		for _, x := range a.Steps {
			if x.From == at {
				from = append(from, x)
			}
		}
		if len(from) == 0 {
			break
		}
		place := new(big.Int).Mod(big.NewInt(int64(pick)), big.NewInt(int64(len(from)))).Int64()
		made = append(made, from[place])
		at = from[place].To
	}
	return made
}

func checkPlay(t *testing.T, a impl.Ia, picks []int) []impl.Step {
	t.Helper()
	got, want := impl.Play(a, picks), wantedPlay(a, picks)
	if !slices.Equal(got, want) {
		t.Fatalf("Play(%+v, %v) = %v, want %v", a, picks, got, want)
	}
	return got
}

// player has three steps from 0, one from 1, two from 3, and none from 2.
func player() impl.Ia {
	return withSteps(impl.Ia{States: 4, Ins: []int{4}, Outs: []int{1, 2}, Hids: []int{9}},
		[3]int{0, 1, 1}, [3]int{0, 2, 3}, [3]int{0, 4, 0}, [3]int{1, 9, 0}, [3]int{3, 2, 0}, [3]int{3, 2, 2})
}

func TestPlayByHand(t *testing.T) {
	type steps = [][3]int
	tests := []struct {
		name  string
		init  int
		picks []int
		want  steps
	}{
		{"no picks", 0, nil, nil},
		{"the first", 0, []int{0}, steps{{0, 1, 1}}},
		{"the second", 0, []int{1}, steps{{0, 2, 3}}},
		{"the last", 0, []int{2}, steps{{0, 4, 0}}},
		{"past the last by one", 0, []int{3}, steps{{0, 1, 1}}},
		{"past the last", 0, []int{7}, steps{{0, 2, 3}}},
		{"-1", 0, []int{-1}, steps{{0, 4, 0}}},
		{"-2", 0, []int{-2}, steps{{0, 2, 3}}},
		{"-3", 0, []int{-3}, steps{{0, 1, 1}}},
		{"-4", 0, []int{-4}, steps{{0, 4, 0}}},
		// 2 to the power of 63 is 2 modulo 3, so that the greatest int is 1, and the least one 1, too.
		{"the greatest int of three", 0, []int{math.MaxInt}, steps{{0, 2, 3}}},
		{"the least int of three", 0, []int{math.MinInt}, steps{{0, 2, 3}}},
		{"the least int but one of three", 0, []int{math.MinInt + 1}, steps{{0, 4, 0}}},
		{"the greatest int of two", 3, []int{math.MaxInt}, steps{{3, 2, 2}}},
		{"the least int of two", 3, []int{math.MinInt}, steps{{3, 2, 0}}},
		{"the least int of one", 1, []int{math.MinInt}, steps{{1, 9, 0}}},
		{"the greatest int of one", 1, []int{math.MaxInt}, steps{{1, 9, 0}}},
		{"-1 of one", 1, []int{-1}, steps{{1, 9, 0}}},
		{"-1 of two", 3, []int{-1}, steps{{3, 2, 2}}},
		{"no step at once", 2, []int{0, 1, 2}, nil},
		{"no step, no pick", 2, nil, nil},
		{"more picks than there is a way for", 0, []int{1, 1, 0, 0, 0}, steps{{0, 2, 3}, {3, 2, 2}}},
		{"just as many picks", 0, []int{1, 1}, steps{{0, 2, 3}, {3, 2, 2}}},
		{"round and round", 0, []int{0, 5, 2, -1, 1, 0, 1, -3}, steps{{0, 1, 1}, {1, 9, 0}, {0, 4, 0}, {0, 4, 0}, {0, 2, 3}, {3, 2, 0}, {0, 2, 3}, {3, 2, 2}}},
		{"the same pick is another step elsewhere", 0, []int{1, 2, 1, 3}, steps{{0, 2, 3}, {3, 2, 0}, {0, 2, 3}, {3, 2, 2}}},
	}
	for _, x := range tests {
		a := player()
		a.Init = x.init
		if got := impl.Play(a, x.picks); !slices.Equal(got, stepsOf(x.want...)) {
			t.Errorf("%s: Play %v, want %v", x.name, got, x.want)
		}
		checkPlay(t, a, x.picks)
	}
	if got := impl.Play(impl.Ia{States: 1}, []int{0, 0}); len(got) != 0 {
		t.Error("one state, no steps:", got)
	}
	if got := impl.Play(row(40), make([]int, 50)); !slices.Equal(got, row(40).Steps) {
		t.Error("40 in a row:", got)
	}
	if got := impl.Play(player(), slices.Repeat([]int{0}, 300001)); len(got) != 300001 || got[300000] != (impl.Step{From: 0, Act: 1, To: 1}) {
		t.Error("a long play:", len(got))
	}
}

func TestPlayOfAllShortLists(t *testing.T) {
	for _, picks := range listsOf([]int{math.MinInt, -4, -1, 0, 1, 2, 5, math.MaxInt}, 4) {
		checkPlay(t, player(), picks)
	}
}

func TestPlayOfDrawnAutomata(t *testing.T) {
	d := draws(87)
	short, long := 0, 0
	for range 2000 {
		states := 1 + d.below(40)
		a := drawnIa(&d, states, d.below(3*states))
		picks := drawnList(&d, d.below(30), 40)
		for i := range picks {
			if d.below(2) == 0 {
				picks[i] = []int{-picks[i], math.MinInt + picks[i], math.MaxInt - picks[i]}[d.below(3)]
			}
		}
		if made := checkPlay(t, a, picks); len(made) < len(picks) {
			short++
		} else if len(made) > 5 {
			long++
		}
		spoil(&d, &a)
		checkPlay(t, a, picks)
	}
	if min(short, long) < 200 {
		t.Fatalf("%d stop, %d go on: too few of one kind to tell", short, long)
	}
}

func TestNoPlayOfWrongAutomata(t *testing.T) {
	for name, a := range wrongAutomata() {
		for _, picks := range [][]int{nil, {0}, {-1, 7, math.MinInt}} {
			if got := impl.Play(a, picks); len(got) != 0 {
				t.Errorf("%s: Play with %v is %v", name, picks, got)
			}
		}
	}
}

// wantedAllFit tells it action by action: nobody has it, one has it, or one takes what another one says.
func wantedAllFit(list []impl.Ia) bool {
	for _, a := range list {
		if !wantedOk(a) {
			return false
		}
	}
	for act := range 12 {
		var kinds []string
		for _, a := range list {
			if kind := kindOf(a, act); kind != "" {
				kinds = append(kinds, kind)
			}
		}
		slices.Sort(kinds)
		if !slices.Contains([]string{"", "in", "out", "hid", "in out"}, strings.Join(kinds, " ")) {
			return false
		}
	}
	return len(list) > 0
}

// wantedAssembled is the document's sentence over the reference of chapter 5. Besides, it tells how it came out.
func wantedAssembled(list []impl.Ia) (impl.Ia, string) {
	if !wantedAllFit(list) {
		return impl.Ia{}, "no fit"
	}
	all := wantedTrimmed(list[0])
	for _, next := range list[1:] {
		switch w := wantedTalk(all, next); {
		case !w.isProduct:
			return impl.Ia{}, "no room"
		case !w.compatible:
			return impl.Ia{}, "a clash"
		default:
			all = w.composed
		}
	}
	return all, "together"
}

func checkAssembled(t *testing.T, list []impl.Ia) string {
	t.Helper()
	if got := impl.AllFit(list); got != wantedAllFit(list) {
		t.Fatalf("AllFit(%+v) = %v", list, got)
	}
	want, how := wantedAssembled(list)
	got, ok := impl.Assembled(list)
	if ok != (how == "together") || !sameIa(got, want) {
		t.Fatalf("Assembled(%+v) = %+v, %v, want %+v, %s", list, got, ok, want, how)
	}
	if ok && (!impl.IaOk(got) || len(impl.Reached(got)) != got.States) {
		t.Fatalf("Assembled(%+v) = %+v is not IaOk, or not all is reached", list, got)
	}
	return how
}

// ordersOf gives a list in all orders, the first one as it is.
func ordersOf(list []impl.Ia) [][]impl.Ia {
	if len(list) < 2 {
		return [][]impl.Ia{list}
	}
	var orders [][]impl.Ia
	for i := range list {
		others := slices.Concat(list[:i], list[i+1:])
		for _, behind := range ordersOf(others) {
			orders = append(orders, slices.Concat([]impl.Ia{list[i]}, behind))
		}
	}
	return orders
}

func TestAllFitByHand(t *testing.T) {
	one := func(ins []int, outs []int, hids []int) impl.Ia {
		return impl.Ia{States: 1, Ins: ins, Outs: outs, Hids: hids}
	}
	type list = []impl.Ia
	full := one([]int{1, 4}, []int{2, 5}, []int{3, 6})
	tests := []struct {
		name string
		list list
		want bool
	}{
		{"none", nil, false},
		{"none, a list", list{}, false},
		{"one", list{full}, true},
		{"one without actions", list{one(nil, nil, nil)}, true},
		{"one that is not IaOk", list{{}}, false},
		{"two with other actions", list{full, one([]int{0}, []int{7}, []int{8})}, true},
		{"two that talk", list{full, one([]int{2, 5}, []int{1, 4}, nil)}, true},
		{"the same one twice", list{full, full}, false},
		{"the same one twice, Ins alone", list{one([]int{1}, nil, nil), one([]int{1}, nil, nil)}, false},
		{"the same one twice, Outs alone", list{one(nil, []int{1}, nil), one(nil, []int{1}, nil)}, false},
		{"the same one twice, Hids alone", list{one(nil, nil, []int{1}), one(nil, nil, []int{1})}, false},
		{"the same one twice, without actions", list{one(nil, nil, nil), one(nil, nil, nil)}, true},
		{"the same one three times, without actions", list{row(3), {States: 1}, {States: 1}}, true},
		{"in Ins of two", list{full, one([]int{4}, nil, nil)}, false},
		{"in Outs of two", list{full, one(nil, []int{5}, nil)}, false},
		{"hidden, and taken by another one", list{full, one([]int{6}, nil, nil)}, false},
		{"hidden, and said by another one", list{full, one(nil, []int{6}, nil)}, false},
		{"hidden, and taken by the one ahead", list{one([]int{6}, nil, nil), full}, false},
		{"hidden, and said by the one ahead", list{one(nil, []int{6}, nil), full}, false},
		{"three that talk in a ring", list{one([]int{0}, []int{1}, nil), one([]int{1}, []int{2}, nil), one([]int{2}, []int{0}, nil)}, true},
		{"three, each with each", list{one([]int{0, 1}, []int{2, 3}, []int{9}), one([]int{2, 4}, []int{0, 5}, []int{8}), one([]int{3, 5}, []int{1, 4}, []int{7})}, true},
		{"in three of them, said by one and taken by two", list{one([]int{0}, nil, nil), one([]int{0}, nil, nil), one(nil, []int{0}, nil)}, false},
		{"in three of them, said by two and taken by one", list{one([]int{0}, nil, nil), one(nil, []int{0}, nil), one(nil, []int{0}, nil)}, false},
		{"in three of them, once of each kind", list{one([]int{0}, nil, nil), one(nil, []int{0}, nil), one(nil, nil, []int{0})}, false},
		{"in three of them, hidden first", list{one(nil, nil, []int{0}), one([]int{0}, nil, nil), one(nil, []int{0}, nil)}, false},
		{"the first and the third in Ins of both", list{one([]int{0}, nil, nil), one([]int{1}, nil, nil), one([]int{0}, nil, nil)}, false},
		{"the second and the third in Outs of both", list{one([]int{0}, nil, nil), one(nil, []int{1}, nil), one(nil, []int{1}, nil)}, false},
		{"the first hides what the third takes", list{one(nil, nil, []int{11}), one(nil, []int{1}, nil), one([]int{11}, nil, nil)}, false},
		{"the third hides what the first takes", list{one([]int{11}, nil, nil), one(nil, []int{1}, nil), one(nil, nil, []int{11})}, false},
		{"four, two and two", list{one([]int{0}, []int{1}, nil), one([]int{2}, []int{3}, nil), one([]int{1}, []int{0}, nil), one([]int{3}, []int{2}, nil)}, true},
		{"four, the last one takes what is taken", list{one([]int{0}, []int{1}, nil), one([]int{2}, []int{3}, nil), one([]int{1}, []int{0}, nil), one([]int{3, 0}, []int{2}, nil)}, false},
		{"four, the last one takes what is talked of", list{one([]int{0}, []int{1}, nil), one([]int{2}, []int{3}, nil), one([]int{1}, []int{0}, nil), one([]int{0, 3}, []int{2}, nil)}, false},
		{"there is no room for them", list{{States: 40}, {States: 40}, {States: 40}}, true},
		{"they clash", list{withSteps(one(nil, []int{0}, nil), [3]int{0, 0, 0}), one([]int{0}, nil, nil)}, true},
		{"the last one is not IaOk", list{full, one([]int{0}, nil, nil), one([]int{12}, nil, nil)}, false},
		{"the first one is not IaOk", list{one(nil, nil, []int{0, 0}), full}, false},
		{"the second one is not IaOk", list{full, {States: 41}, one([]int{0}, nil, nil)}, false},
	}
	for _, x := range tests {
		for _, order := range ordersOf(x.list) {
			if got := impl.AllFit(order); got != x.want {
				t.Errorf("%s: AllFit %v of %+v", x.name, got, order)
			}
			checkAssembled(t, order)
		}
	}
}

// All kinds that an action may have in one to five of them.
func TestAllFitOfAllKindsOfAnAction(t *testing.T) {
	kinds := func(act int, kind int) impl.Ia {
		return []impl.Ia{{States: 1}, {States: 1, Ins: []int{act}}, {States: 1, Outs: []int{act}}, {States: 1, Hids: []int{act}}}[kind]
	}
	for act := range 12 {
		for _, list := range listsOf(upTo(4), 5) {
			var all []impl.Ia
			for _, kind := range list {
				all = append(all, kinds(act, kind))
			}
			if got, want := impl.AllFit(all), wantedAllFit(all); got != want {
				t.Fatalf("action %d of kinds %v: AllFit %v", act, list, got)
			}
		}
	}
}

func TestAllFitOfMany(t *testing.T) {
	var twelve []impl.Ia
	for act := range 12 {
		twelve = append(twelve, impl.Ia{States: 1, Ins: []int{act}, Outs: []int{(act + 1) % 12}})
	}
	twelve = append(twelve, slices.Repeat([]impl.Ia{{States: 1}}, 3000)...)
	checkAssembled(t, twelve)
	if all, ok := impl.Assembled(twelve); !impl.AllFit(twelve) || !ok || len(all.Hids) != 12 || all.States != 1 {
		t.Fatal(all, ok)
	}
	for _, last := range []impl.Ia{{}, {States: 1, Ins: []int{11}}, {States: 1, Outs: []int{0}}, {States: 1, Hids: []int{5}}} {
		more := append(slices.Clone(twelve), last)
		if impl.AllFit(more) {
			t.Fatal("with", last)
		}
		checkAssembled(t, more)
	}
}

func TestNothingAssembledOfWrongAutomata(t *testing.T) {
	for name, wrong := range wrongAutomata() {
		alone := impl.Ia{States: 1}
		for _, list := range [][]impl.Ia{{wrong}, {wrong, alone}, {alone, wrong}, {alone, wrong, alone}, {alone, alone, wrong}, {wrong, wrong}} {
			if all, ok := impl.Assembled(list); ok || !sameIa(all, impl.Ia{}) || impl.AllFit(list) {
				t.Errorf("%s: %d of them: Assembled %+v, %v, AllFit %v", name, len(list), all, ok, impl.AllFit(list))
			}
		}
	}
}

// client asks with 0 and waits for 1; server asks with 2 and waits for 3, before it answers; store takes 2 and says 3.
func client() impl.Ia {
	return withSteps(impl.Ia{States: 2, Ins: []int{1}, Outs: []int{0}}, [3]int{0, 0, 1}, [3]int{1, 1, 0})
}

func server() impl.Ia {
	return withSteps(impl.Ia{States: 4, Ins: []int{0, 3}, Outs: []int{1, 2}}, [3]int{0, 0, 1}, [3]int{1, 2, 2}, [3]int{2, 3, 3}, [3]int{3, 1, 0})
}

func store() impl.Ia {
	return withSteps(impl.Ia{States: 2, Ins: []int{2}, Outs: []int{3}}, [3]int{0, 2, 1}, [3]int{1, 3, 0})
}

func TestAssembledByHand(t *testing.T) {
	type list = []impl.Ia
	hidden := impl.Ia{States: 4, Hids: upTo(4)}
	deafStore := impl.Ia{States: 1, Ins: []int{2}, Outs: []int{3}}
	tests := []struct {
		name string
		list list
		want impl.Ia
		ok   bool
	}{
		{"none", nil, impl.Ia{}, false},
		{"one", list{server()}, server(), true},
		{"one, not all of it is reached", list{changed(server(), func(a *impl.Ia) { a.Steps = a.Steps[:2] })},
			withSteps(impl.Ia{States: 3, Ins: []int{0, 3}, Outs: []int{1, 2}}, [3]int{0, 0, 1}, [3]int{1, 2, 2}), true},
		{"one, from its last state on", list{changed(row(5), func(a *impl.Ia) { a.Init = 4 })}, impl.Ia{States: 1, Outs: []int{3}}, true},
		{"client and server", list{client(), server()},
			withSteps(impl.Ia{States: 4, Ins: []int{3}, Outs: []int{2}, Hids: []int{0, 1}}, [3]int{0, 0, 1}, [3]int{1, 2, 2}, [3]int{2, 3, 3}, [3]int{3, 1, 0}), true},
		{"server and store", list{server(), store()},
			withSteps(impl.Ia{States: 4, Ins: []int{0}, Outs: []int{1}, Hids: []int{2, 3}}, [3]int{0, 0, 1}, [3]int{1, 2, 2}, [3]int{2, 3, 3}, [3]int{3, 1, 0}), true},
		// With nothing in common, each goes on for itself: client waits for what nobody says.
		{"client and store", list{client(), store()},
			withSteps(impl.Ia{States: 4, Ins: []int{1, 2}, Outs: []int{0, 3}}, [3]int{0, 0, 2}, [3]int{0, 2, 1}, [3]int{1, 0, 3}, [3]int{1, 3, 0}, [3]int{2, 1, 0}, [3]int{2, 2, 3}, [3]int{3, 1, 1}, [3]int{3, 3, 2}), true},
		{"client, server, store", list{client(), server(), store()}, withSteps(hidden, [3]int{0, 0, 1}, [3]int{1, 2, 2}, [3]int{2, 3, 3}, [3]int{3, 1, 0}), true},
		{"store, server, client", list{store(), server(), client()}, withSteps(hidden, [3]int{0, 0, 1}, [3]int{1, 2, 3}, [3]int{2, 1, 0}, [3]int{3, 3, 2}), true},
		{"client, store, server", list{client(), store(), server()}, withSteps(hidden, [3]int{0, 0, 1}, [3]int{1, 2, 3}, [3]int{2, 1, 0}, [3]int{3, 3, 2}), true},
		{"the second Composed is false", list{client(), server(), deafStore}, impl.Ia{}, false},
		{"the first Composed is false", list{deafStore, server(), client()}, impl.Ia{}, false},
		{"the last of four is false", list{client(), store(), {States: 1}, changed(server(), func(a *impl.Ia) { a.Steps = a.Steps[:2] })}, impl.Ia{}, false},
		{"an input is taken away where it leads to a clash", list{withSteps(impl.Ia{States: 2, Ins: []int{0, 1}, Outs: []int{6}}, [3]int{0, 0, 1}, [3]int{0, 1, 0}, [3]int{1, 6, 0}), {States: 1, Ins: []int{6}}, {States: 1, Hids: []int{5}}},
			withSteps(impl.Ia{States: 1, Ins: []int{0, 1}, Hids: []int{5, 6}}, [3]int{0, 1, 0}), true},
		{"the same one twice", list{client(), client()}, impl.Ia{}, false},
		{"an action in three of them", list{client(), server(), {States: 1, Ins: []int{0}}}, impl.Ia{}, false},
		{"a hidden one that another one has", list{client(), server(), {States: 1, Hids: []int{0}}}, impl.Ia{}, false},
	}
	for _, x := range tests {
		got, ok := impl.Assembled(x.list)
		if ok != x.ok || !sameIa(got, x.want) {
			t.Errorf("%s: Assembled %+v, %v, want %+v, %v", x.name, got, ok, x.want, x.ok)
		}
		for _, order := range ordersOf(x.list) {
			checkAssembled(t, order)
		}
	}
}

// Of one it is the automaton Trimmed, and no more.
func TestAssembledOfOne(t *testing.T) {
	for name, a := range goodAutomata() {
		if got, ok := impl.Assembled([]impl.Ia{a}); !ok || !sameIa(got, wantedTrimmed(a)) {
			t.Errorf("%s: %+v, %v", name, got, ok)
		}
	}
	d := draws(88)
	for range 500 {
		checkAssembled(t, []impl.Ia{drawnIa(&d, 1+d.below(40), d.below(60))})
	}
}

func TestAssembledAtTheLimit(t *testing.T) {
	says := func(act int, states int) impl.Ia {
		return changed(row(states), func(a *impl.Ia) {
			a.Outs = []int{act}
			for i := range a.Steps {
				a.Steps[i].Act = act
			}
		})
	}
	// Of 40 states but two may be come to.
	seldom := changed(says(0, 2), func(a *impl.Ia) { a.States = 40 })
	// No step goes from state 0; from the others there are n of them.
	busy := func(n int) impl.Ia {
		a := impl.Ia{States: 20, Outs: []int{5, 6}}
		for i := range n {
			a.Steps = append(a.Steps, impl.Step{From: 1 + i/40, Act: 5 + i/20%2, To: i % 20})
		}
		return a
	}
	hums := func(n int, acts ...int) impl.Ia {
		a := impl.Ia{States: n, Hids: acts}
		for s := range n {
			for _, act := range acts {
				a = withSteps(a, [3]int{s, act, (s + 1) % n})
			}
		}
		return a
	}
	type list = []impl.Ia
	tests := []struct {
		name   string
		list   list
		states int // 0 where there is no room
	}{
		{"40 states", list{says(0, 40)}, 40},
		{"41 states", list{says(0, 41)}, 0},
		{"5 times 4 times 2", list{says(0, 5), says(1, 4), says(2, 2)}, 40},
		{"3 times 3 times 5", list{says(0, 3), says(1, 3), says(2, 5)}, 0},
		{"2 times 3 times 7", list{says(0, 2), says(1, 3), says(2, 7)}, 0},
		{"40 and one", list{says(0, 40), says(1, 1), {States: 1}}, 40},
		{"40 and two", list{says(0, 40), says(1, 2)}, 0},
		{"two of 40 and 20", list{seldom, says(1, 20)}, 40},
		{"two of 40, 20 and one", list{seldom, says(1, 20), {States: 1}}, 40},
		{"two of 40, 20 and two", list{seldom, says(1, 20), says(2, 2)}, 0},
		{"20 and two of 40: the later ones are not Trimmed", list{says(1, 20), seldom}, 0},
		{"one, and two of 40", list{{States: 1}, seldom}, 2},
		{"one, two of 40, and 20", list{{States: 1}, seldom, says(1, 20)}, 40},
		{"busy, of which but one state is reached", list{busy(380), hums(20, 0, 1, 2)}, 20},
		{"busy, of which but one state is reached, behind another one", list{{States: 1}, busy(380), hums(40, 0, 1, 2)}, 40},
		{"busy, not trimmed, 380 steps and 20", list{hums(1, 0), busy(380)}, 1},
		{"busy, not trimmed, 380 steps and 40", list{hums(1, 0, 1), busy(380)}, 0},
		{"400 steps", list{hums(40, upTo(10)...)}, 40},
		{"400 steps in the end", list{hums(10, 0, 1), hums(2, 2, 3, 4), hums(2, upTo(10)[5:]...)}, 40},
		{"440 steps in the end", list{hums(10, 0, 1), hums(2, 2, 3, 4), hums(2, upTo(11)[5:]...)}, 0},
		{"400 steps and one that does nothing", list{crowded(400), {States: 1}}, 40},
		{"400 steps and one for each state", list{crowded(400), hums(1, 0)}, 0},
	}
	for _, x := range tests {
		got, ok := impl.Assembled(x.list)
		if ok != (x.states > 0) || got.States != x.states {
			t.Errorf("%s: %d states, %v", x.name, got.States, ok)
		}
		for _, order := range ordersOf(x.list) {
			checkAssembled(t, order)
		}
	}
}

// places are the states of up to four automata at once.
type places [4]int

// whole is what several make all at once, without a product of two: the reference for what comes of any order.
type whole struct {
	list  []impl.Ia
	found []places
	moves []wholeMove
	bad   map[places]bool
}

type wholeMove struct {
	from places
	act  int
	to   places
}

// kindIn is of an action of the whole: hidden where one says it to another one.
func kindIn(list []impl.Ia, act int) string {
	var kinds []string
	for _, a := range list {
		if kind := kindOf(a, act); kind != "" {
			kinds = append(kinds, kind)
		}
	}
	if len(kinds) > 1 {
		return "hid"
	}
	return strings.Join(kinds, "")
}

// after gives where all come to when each that has the action makes a step with it; nowhere if one of these may not.
func (w *whole) after(at places, act int) []places {
	tos := []places{at}
	for i, a := range w.list {
		if kindOf(a, act) == "" {
			continue
		}
		var next []places
		for _, x := range tos {
			for _, s := range wantedAfter(a, at[i], act) {
				x[i] = s
				next = append(next, x)
			}
		}
		tos = next
	}
	return tos
}

func (w *whole) clash(at places) bool {
	for i, a := range w.list {
		for j, b := range w.list {
			for act := range 12 {
				if kindOf(a, act) == "out" && kindOf(b, act) == "in" && len(wantedAfter(a, at[i], act)) > 0 && len(wantedAfter(b, at[j], act)) == 0 {
					return true
				}
			}
		}
	}
	return false
}

// wantedWhole goes forward from all Inits, and then back from the clashes along all that nobody outside is asked for.
func wantedWhole(list []impl.Ia) *whole {
	w := &whole{list: list, found: []places{{}}, bad: map[places]bool{}}
	for i, a := range list {
		w.found[0][i] = a.Init
	}
	for i := 0; i < len(w.found); i++ {
		at := w.found[i]
		for act := range 12 {
			if kindIn(list, act) == "" {
				continue
			}
			for _, to := range w.after(at, act) {
				w.moves = append(w.moves, wholeMove{at, act, to})
				if !slices.Contains(w.found, to) {
					w.found = append(w.found, to)
				}
			}
		}
		if w.clash(at) {
			w.bad[at] = true
		}
	}
	for more := true; more; {
		more = false
		for _, x := range w.moves {
			if kindIn(list, x.act) != "in" && w.bad[x.to] && !w.bad[x.from] {
				w.bad[x.from], more = true, true
			}
		}
	}
	return w
}

func (w *whole) together() bool { return !w.bad[w.found[0]] }

// left is the automaton of what may be come to without what is bad, its states in the order of their places.
func (w *whole) left() impl.Ia {
	kept := []places{w.found[0]}
	for i := 0; i < len(kept); i++ {
		for _, x := range w.moves {
			if x.from == kept[i] && !w.bad[x.to] && !slices.Contains(kept, x.to) {
				kept = append(kept, x.to)
			}
		}
	}
	slices.SortFunc(kept, func(x, y places) int { return slices.Compare(x[:], y[:]) })
	a := impl.Ia{States: len(kept), Init: slices.Index(kept, w.found[0])}
	for act := range 12 {
		switch kindIn(w.list, act) {
		case "in":
			a.Ins = append(a.Ins, act)
		case "out":
			a.Outs = append(a.Outs, act)
		case "hid":
			a.Hids = append(a.Hids, act)
		}
	}
	for _, x := range w.moves {
		if from, to := slices.Index(kept, x.from), slices.Index(kept, x.to); from >= 0 && to >= 0 {
			a.Steps = append(a.Steps, impl.Step{From: from, Act: x.act, To: to})
		}
	}
	slices.SortFunc(a.Steps, func(x, y impl.Step) int { return slices.Compare(numbersOf(x), numbersOf(y)) })
	return a
}

// checkLooksSame follows all traces that one of both may have, till all ends of traces are known, or many: both take and say the same.
func checkLooksSame(t *testing.T, x impl.Ia, y impl.Ia) {
	t.Helper()
	if !slices.Equal(x.Ins, y.Ins) || !slices.Equal(x.Outs, y.Outs) || !slices.Equal(x.Hids, y.Hids) {
		t.Fatalf("%+v and %+v have other actions", x, y)
	}
	type end struct{ ofX, ofY []int }
	ends := []end{{impl.Closure(x, x.Init), impl.Closure(y, y.Init)}}
	for i := 0; i < len(ends); i++ {
		at := ends[i]
		if !slices.Equal(impl.MixTaken(x, at.ofX), impl.MixTaken(y, at.ofY)) || !slices.Equal(impl.MixSaid(x, at.ofX), impl.MixSaid(y, at.ofY)) {
			t.Fatalf("%+v and %+v: behind a trace, in %v and %v, they take or say other actions", x, y, at.ofX, at.ofY)
		}
		for _, act := range slices.Concat(x.Ins, x.Outs) {
			next := end{impl.Runs(x, at.ofX, []int{act}), impl.Runs(y, at.ofY, []int{act})}
			if len(next.ofX) == 0 != (len(next.ofY) == 0) {
				t.Fatalf("%+v and %+v: behind a trace, in %v and %v, one of both goes on with %d", x, y, at.ofX, at.ofY, act)
			}
			known := func(z end) bool { return slices.Equal(z.ofX, next.ofX) && slices.Equal(z.ofY, next.ofY) }
			if len(next.ofX) > 0 && len(ends) < 100 && !slices.ContainsFunc(ends, known) {
				ends = append(ends, next)
			}
		}
	}
	if !impl.Refines(x, y) || !impl.Refines(y, x) {
		t.Fatalf("%+v and %+v do not stand in the place of one another", x, y)
	}
}

// checkAnyOrder is the second part of promise 8: where there is room, in any order the same comes, or a clash.
func checkAnyOrder(t *testing.T, list []impl.Ia) string {
	t.Helper()
	var came []string
	var first *impl.Ia
	for _, order := range ordersOf(list) {
		how := checkAssembled(t, order)
		came = append(came, how)
		if how != "together" && how != "a clash" {
			continue
		}
		w := wantedWhole(order)
		if w.together() != (how == "together") {
			t.Fatalf("%+v: %s, but all at once it is %v", order, how, w.together())
		}
		if how != "together" {
			continue
		}
		got, _ := impl.Assembled(order)
		if want := w.left(); !sameIa(got, want) {
			t.Fatalf("Assembled(%+v) = %+v, all at once it is %+v", order, got, want)
		}
		if first == nil {
			first = &got
		}
		checkLooksSame(t, *first, got)
		if len(w.bad) > 0 {
			came = append(came, "something goes")
		}
	}
	slices.Sort(came)
	return strings.Join(slices.Compact(came), ", ")
}

// turner goes round with its hidden action.
func turner(states int, act int) impl.Ia {
	a := impl.Ia{States: states, Hids: []int{act}}
	for s := range states {
		a = withSteps(a, [3]int{s, act, (s + 1) % states})
	}
	return a
}

func TestAnyOrderByHand(t *testing.T) {
	one := func(ins []int, outs []int, steps ...[3]int) impl.Ia {
		return withSteps(impl.Ia{States: 1, Ins: ins, Outs: outs}, steps...)
	}
	// From outside, 8 leads to where it says 0 once too often.
	pushed := withSteps(impl.Ia{States: 3, Ins: []int{1, 8}, Outs: []int{0}}, [3]int{0, 0, 1}, [3]int{1, 1, 0}, [3]int{1, 8, 2}, [3]int{2, 0, 2}, [3]int{2, 1, 2})
	tests := []struct {
		name string
		list []impl.Ia
		want string
	}{
		{"client, server, store", []impl.Ia{client(), server(), store()}, "together"},
		{"a store that takes nothing", []impl.Ia{client(), server(), one([]int{2}, []int{3})}, "a clash"},
		{"a store that says too much", []impl.Ia{client(), server(), one([]int{2}, []int{3}, [3]int{0, 2, 0}, [3]int{0, 3, 0})}, "a clash"},
		{"a client that is pushed", []impl.Ia{pushed, server(), store()}, "something goes, together"},
		{"a client that is pushed, by one of them", []impl.Ia{pushed, server(), withSteps(impl.Ia{States: 2, Ins: []int{2}, Outs: []int{3, 8}}, [3]int{0, 2, 1}, [3]int{1, 8, 1}, [3]int{1, 3, 0})}, "no fit"},
		{"three that do nothing", []impl.Ia{one(nil, nil), one(nil, nil), one(nil, nil)}, "together"},
		{"three that have nothing to do with one another", []impl.Ia{row(2), {States: 3, Hids: []int{1}}, one([]int{0}, []int{5}, [3]int{0, 0, 0})}, "together"},
		{"three in a ring", []impl.Ia{
			withSteps(impl.Ia{States: 2, Ins: []int{2}, Outs: []int{0}}, [3]int{0, 0, 1}, [3]int{1, 2, 0}),
			withSteps(impl.Ia{States: 2, Ins: []int{0}, Outs: []int{1}}, [3]int{0, 0, 1}, [3]int{1, 1, 0}),
			withSteps(impl.Ia{States: 2, Ins: []int{1}, Outs: []int{2}}, [3]int{0, 1, 1}, [3]int{1, 2, 0})}, "together"},
		{"three in a ring, all of which begin", []impl.Ia{
			withSteps(impl.Ia{States: 2, Ins: []int{2}, Outs: []int{0}}, [3]int{0, 0, 1}, [3]int{1, 2, 0}),
			withSteps(impl.Ia{States: 2, Init: 1, Ins: []int{0}, Outs: []int{1}}, [3]int{0, 0, 1}, [3]int{1, 1, 0}),
			withSteps(impl.Ia{States: 2, Init: 1, Ins: []int{1}, Outs: []int{2}}, [3]int{0, 1, 1}, [3]int{1, 2, 0})}, "a clash"},
		{"room in some orders", []impl.Ia{changed(row(2), func(a *impl.Ia) { a.States = 40 }), turner(2, 1), {States: 1, Hids: []int{2}}}, "no room, together"},
		{"room in no order", []impl.Ia{row(7), turner(6, 1), {States: 1}}, "no room"},
		{"states that are not reached need no room", []impl.Ia{{States: 7}, {States: 6}, {States: 7}}, "together"},
		{"an action in three", []impl.Ia{client(), server(), one([]int{0}, nil)}, "no fit"},
		{"one", []impl.Ia{server()}, "together"},
		{"four", []impl.Ia{client(), server(), store(), one(nil, []int{5}, [3]int{0, 5, 0})}, "together"},
	}
	for _, x := range tests {
		if got := checkAnyOrder(t, x.list); got != x.want {
			t.Errorf("%s: %s", x.name, got)
		}
	}
}

// waiting does nothing at the beginning, so that a clash is mostly come to by what is taken from outside.
func waiting(a impl.Ia) impl.Ia {
	return changed(a, func(a *impl.Ia) {
		a.Steps = slices.DeleteFunc(a.Steps, func(x impl.Step) bool { return x.From == a.Init && !occurs(a.Ins, x.Act) })
	})
}

// Promise 8, over drawn ones of the small talkers: in a ring, in a row, and two that talk to a third.
func TestSmallTalkersInAnyOrder(t *testing.T) {
	d := draws(89)
	forms := [][3][]impl.Ia{
		{smallTalkers(0, 1), smallTalkers(1, 2), smallTalkers(2, 0)},
		{smallTalkers(0, 1), smallTalkers(1, 2), smallTalkers(2, 3)},
		{smallTalkers(0, 1), smallTalkers(1, 0), smallTalkers(2, 3)},
	}
	count := map[string]int{}
	for i := range 1800 {
		var list []impl.Ia
		for _, talkers := range forms[i%3] {
			a := talkers[d.below(len(talkers))]
			a.Init = d.below(2)
			if i%6 > 2 {
				a = waiting(a)
			}
			list = append(list, a)
		}
		count[checkAnyOrder(t, list)]++
	}
	for _, kind := range []string{"together", "something goes, together", "a clash"} {
		if count[kind] < 30 {
			t.Fatalf("%v: too few of %q to tell", count, kind)
		}
	}
}

// drawnGroup is AllFit: each action is of nobody, of one, or said by one to another one.
func drawnGroup(d *draws, n int, states int, count int) []impl.Ia {
	list := make([]impl.Ia, n)
	for act := range 12 {
		i := d.below(n)
		j := (i + 1 + d.below(n-1)) % n
		switch d.below(8) {
		case 0, 1, 2, 3:
			list[i].Outs, list[j].Ins = append(list[i].Outs, act), append(list[j].Ins, act)
		case 4, 5:
			list[i].Ins = append(list[i].Ins, act)
		case 6:
			list[i].Hids = append(list[i].Hids, act)
		}
	}
	for i := range list {
		list[i].States = 1 + d.below(states)
		list[i].Init = d.below(list[i].States)
		drawSteps(d, &list[i], 1+d.below(count))
		if d.below(3) == 0 {
			list[i] = waiting(list[i])
		}
	}
	return list
}

func TestDrawnGroupsInAnyOrder(t *testing.T) {
	d := draws(90)
	count := map[string]int{}
	for i := range 900 {
		list := drawnGroup(&d, 3, 3+i%3, 3+i%5)
		if i%3 > 0 {
			for j, a := range list {
				list[j] = waiting(a)
			}
		}
		count[checkAnyOrder(t, list)]++
	}
	for _, kind := range []string{"together", "something goes, together", "a clash", "no room", "no room, together"} {
		if count[kind] < 5 {
			t.Fatalf("%v: too few of %q to tell", count, kind)
		}
	}
}

func TestAssembledOfDrawnGroups(t *testing.T) {
	d := draws(91)
	count := map[string]int{}
	for i := range 1500 {
		list := drawnGroup(&d, 2+i%4, 3, 3)
		switch i % 5 {
		case 0:
			spoil(&d, &list[d.below(len(list))])
		case 1: // each may stand anywhere, one of them twice
			list = slices.Insert(list, d.below(len(list)), list[d.below(len(list))])
		case 2:
			list[d.below(len(list))] = drawnIa(&d, 1+d.below(3), 3)
		}
		how := checkAssembled(t, list)
		if all, ok := impl.Assembled(list); ok && all.States > 3 && len(all.Hids) > 3 {
			how += ", several states"
		}
		count[fmt.Sprint(how, " of ", len(list))]++
	}
	for n := 2; n < 6; n++ {
		for _, how := range []string{"together, several states", "a clash", "no fit"} {
			if kind := fmt.Sprint(how, " of ", n); count[kind] < 5 {
				t.Fatalf("%v: too few of %q to tell", count, kind)
			}
		}
	}
}

// Of two it is the first one Trimmed, Composed with the second one; where there is room for them and it is none, these have a witness.
func TestAssembledOfTwoIsComposed(t *testing.T) {
	d := draws(92)
	for range 500 {
		a, b := drawnTalkers(&d, 3)
		want, ok := impl.Composed(impl.Trimmed(a), b)
		got, is := impl.Assembled([]impl.Ia{a, b})
		if ok != is || !sameIa(got, want) {
			t.Fatalf("Assembled of %+v and %+v is %+v, %v, but Composed %+v, %v", a, b, got, is, want, ok)
		}
		_, has := impl.Witness(impl.Trimmed(a), b)
		if _, room := impl.Product(impl.Trimmed(a), b); room && has == is {
			t.Fatalf("%+v and %+v: Assembled %v, Witness %v", a, b, is, has)
		}
	}
}

var sentinelIa = impl.Ia{States: sentinel, Init: sentinel}

// groupsForMemory has one of each outcome: no fit, no room, a clash, and several that go together.
func groupsForMemory() map[string][]impl.Ia {
	all := map[string][]impl.Ia{
		"none":            {},
		"one":             {talker()},
		"not trimmed":     {changed(whisperer(), func(a *impl.Ia) { a.Init = 4 })},
		"two":             {client(), server()},
		"three":           {client(), server(), store()},
		"a clash":         {client(), server(), {States: 1, Ins: []int{2}}},
		"no room":         {row(10), turner(10, 1)},
		"no fit":          {client(), client()},
		"one is wrong":    {client(), {States: 1, Ins: []int{2, 1}}},
		"empty lists":     {{States: 1, Ins: []int{}, Outs: []int{}, Hids: []int{}, Steps: []impl.Step{}}, {States: 1, Ins: []int{}}},
		"the same twice":  {{States: 1}, {States: 1}},
		"40 states":       {row(40), {States: 1, Ins: []int{5}}},
		"sets, no steps":  {{States: 2, Ins: []int{1, 4}, Outs: []int{0}, Hids: []int{2, 7}}, {States: 2, Ins: []int{0}, Outs: []int{1, 6}}, {States: 1, Hids: []int{11}}},
		"a clash at once": {eager(), {States: 1, Ins: []int{0}}},
	}
	d := draws(93)
	for i := range 60 {
		all[fmt.Sprint("drawn ", i)] = drawnGroup(&d, 2+i%2, 3, 4)
	}
	return all
}

func roomyList(list []impl.Ia) []impl.Ia {
	roomy := roomyOf(list, sentinelIa)
	for i, a := range list {
		roomy[i] = roomyIa(a)
	}
	return roomy
}

func checkListUntouched(t *testing.T, what string, list []impl.Ia, was []impl.Ia) {
	t.Helper()
	for i, a := range list[:cap(list)] {
		if i >= len(was) {
			if !sameIa(a, sentinelIa) {
				t.Fatalf("%s: the room behind the list was written into: %+v", what, a)
			}
		} else if a.States != was[i].States || a.Init != was[i].Init {
			t.Fatalf("%s: place %d of the list became %+v", what, i, a)
		} else {
			checkIaUntouched(t, what, a, was[i])
		}
	}
}

func TestGroupsAreLeftAsTheyAre(t *testing.T) {
	for name, was := range groupsForMemory() {
		list := roomyList(was)
		impl.AllFit(list)
		all, _ := impl.Assembled(list)
		checkListUntouched(t, name, list, was)
		scribbleIa(all)
		checkListUntouched(t, name+", the answer written over", list, was)
	}
}

func TestAssembledSharesNoMemory(t *testing.T) {
	for name, was := range groupsForMemory() {
		list := roomyList(was)
		all, _ := impl.Assembled(list)
		want := cloneIa(all)
		for i := range list {
			scribbleIa(list[i])
			list[i] = sentinelIa
		}
		if !sameIa(all, want) {
			t.Fatalf("%s: the answer of Assembled shares memory with an argument", name)
		}
		checkListsApart(t, name+", Assembled", func() impl.Ia {
			all, _ := impl.Assembled(was)
			return all
		})
	}
}

// No call keeps anything: an answer that is written over is not told again.
func TestNothingAssembledIsKeptForAnother(t *testing.T) {
	for _, list := range groupsForMemory() {
		for range 3 {
			checkAssembled(t, list)
			all, _ := impl.Assembled(list)
			scribbleIa(all)
		}
	}
}

func TestAssembledDoesNotReadSpareRoom(t *testing.T) {
	all := []impl.Ia{client(), server(), store(), client(), {}}
	for n := range all {
		if got := impl.AllFit(all[:n]); got != (n > 0 && n < 4) {
			t.Errorf("%d of them: AllFit %v", n, got)
		}
		if _, ok := impl.Assembled(all[:n]); ok != (n > 0 && n < 4) {
			t.Errorf("%d of them: Assembled %v", n, ok)
		}
		checkAssembled(t, all[:n])
	}
	a := withSteps(impl.Ia{States: 2, Ins: []int{1, 0}, Outs: []int{0, 5}, Hids: []int{6, 0}}, [3]int{0, 0, 1}, [3]int{1, 1, 0}, [3]int{1, 5, 7})
	a.Ins, a.Outs, a.Hids, a.Steps = a.Ins[:1], a.Outs[:1], a.Hids[:0], a.Steps[:2]
	if got, ok := impl.Assembled([]impl.Ia{a}); !ok || !sameIa(got, client()) {
		t.Error(got, ok)
	}
	if got := checkAssembled(t, []impl.Ia{a, server(), store()}); got != "together" {
		t.Error(got)
	}
}

func TestWitnessLeavesArgumentsAsTheyAre(t *testing.T) {
	for name, was := range talkersForMemory() {
		a, b := roomyIa(was[0]), roomyIa(was[1])
		want, _ := wantedTalk(was[0], was[1]).witness()
		wasPicks := []int{0, 5, -3, 1, math.MinInt}
		asked, picks := roomyOf(want, sentinelStep), roomy(wasPicks)
		check := func(what string) {
			t.Helper()
			checkIaUntouched(t, what, a, was[0])
			checkIaUntouched(t, what, b, was[1])
			checkUntouchedOf(t, what, asked, want, sentinelStep)
			checkUntouched(t, what, picks, wasPicks)
		}
		row, _ := impl.Witness(a, b)
		impl.WitnessOk(a, b, asked)
		made := impl.Play(a, picks)
		check(name)
		scribbleOf(row, sentinelStep)
		scribbleOf(made, sentinelStep)
		check(name + ", answers written over")
	}
}

func TestWitnessSharesNoMemoryWithArguments(t *testing.T) {
	for name, was := range talkersForMemory() {
		a, b := roomyIa(was[0]), roomyIa(was[1])
		picks := roomy([]int{1, 0, 2, -1})
		row, _ := impl.Witness(a, b)
		made := impl.Play(a, picks)
		wantRow, wantMade := slices.Clone(row), slices.Clone(made)
		scribbleIa(a)
		scribbleIa(b)
		scribble(picks)
		if !slices.Equal(row, wantRow) || !slices.Equal(made, wantMade) {
			t.Fatalf("%s: an answer shares memory with an argument", name)
		}
	}
}

// No call keeps anything: an answer that is written over is not told again.
func TestNoWitnessIsKeptForAnother(t *testing.T) {
	for _, x := range talkersForMemory() {
		for range 3 {
			checkWitness(t, x[0], x[1])
			row, _ := impl.Witness(x[0], x[1])
			scribbleOf(row, sentinelStep)
			scribbleOf(checkPlay(t, x[0], []int{3, 1, 4, 1, 5}), sentinelStep)
		}
	}
}

func TestWitnessDoesNotReadSpareRoom(t *testing.T) {
	a := withSteps(impl.Ia{States: 2, Ins: []int{0, 4}, Outs: []int{1, 5}, Hids: []int{6, 7}}, [3]int{0, 0, 1}, [3]int{1, 1, 0}, [3]int{1, 5, 0})
	b := withSteps(impl.Ia{States: 1, Ins: []int{1, 4}, Outs: []int{0, 5}, Hids: []int{6, 7}}, [3]int{0, 0, 0}, [3]int{0, 1, 0})
	checkNoWitness(t, "with what is to lie behind", a, b)
	a.Ins, a.Outs, a.Hids, a.Steps = a.Ins[:1], a.Outs[:1], a.Hids[:0], a.Steps[:2]
	b.Ins, b.Outs, b.Hids, b.Steps = b.Ins[:1], b.Outs[:1], b.Hids[:0], b.Steps[:1]
	if row, ok := impl.Witness(a, b); !ok || !slices.Equal(row, stepsOf([3]int{0, 0, 1})) {
		t.Fatal(row, ok)
	}
	checkWitnessAnyWay(t, a, b)
	row := stepsOf([3]int{0, 0, 1}, [3]int{0, 0, 1})
	if impl.WitnessOk(a, b, row[:0]) || !impl.WitnessOk(a, b, row[:1]) || impl.WitnessOk(a, b, row) {
		t.Error("the room behind a row")
	}
	if picks := []int{0, 0, 0}; len(impl.Play(a, picks[:1])) != 1 || len(impl.Play(a, picks[:0])) != 0 {
		t.Error("the room behind picks")
	}
}

// The lists of both, the row and the picks may lie in one piece of memory, each in the room behind another.
func TestWitnessOfListsInOnePiece(t *testing.T) {
	was, wasSteps := []int{0, 1, 0}, stepsOf([3]int{0, 0, 1}, [3]int{1, 1, 0}, [3]int{0, 0, 0})
	piece, steps := slices.Clone(was), slices.Clone(wasSteps)
	a := impl.Ia{States: 2, Ins: piece[:1], Outs: piece[1:2], Steps: steps[:2]}
	b := impl.Ia{States: 1, Ins: piece[1:2], Outs: piece[2:], Steps: steps[2:]}
	w := checkWitnessAnyWay(t, a, b)
	if row, ok := w.witness(); !ok || len(row) != 1 || !impl.WitnessOk(a, b, steps[:1]) || impl.WitnessOk(a, b, steps[:2]) {
		t.Fatal(row, ok)
	}
	checkPlay(t, a, piece)
	checkAssembled(t, []impl.Ia{a, b})
	row, _ := impl.Witness(a, b)
	scribbleOf(row, sentinelStep)
	scribbleOf(impl.Play(a, piece), sentinelStep)
	if !slices.Equal(piece, was) || !slices.Equal(steps, wasSteps) {
		t.Fatal("the argument was written into", piece, steps)
	}
}

// The answer is the same however the goroutines are scheduled, also where several ask at once of the same automata.
func TestWitnessIsTheSameHoweverItIsScheduled(t *testing.T) {
	defer runtime.GOMAXPROCS(runtime.GOMAXPROCS(0))
	all := talkersForMemory()
	all["40 states"] = [2]impl.Ia{farWalker(true), {States: 1, Ins: []int{11}}}
	for _, procs := range []int{1, 2, 8} {
		runtime.GOMAXPROCS(procs)
		for name, x := range all {
			want, has := wantedTalk(x[0], x[1]).witness()
			var asking sync.WaitGroup
			for range 4 {
				asking.Go(func() {
					for range 10 {
						row, ok := impl.Witness(x[0], x[1])
						if ok != has || !slices.Equal(row, want) {
							t.Errorf("%s, %d at once: Witness %v, %v, want %v, %v", name, procs, row, ok, want, has)
						}
					}
				})
			}
			asking.Wait()
		}
	}
}

func TestWitnessLeavesNoGoroutine(t *testing.T) {
	before := runtime.NumGoroutine()
	for range 20 {
		for _, x := range talkersForMemory() {
			row, _ := impl.Witness(x[0], x[1])
			impl.WitnessOk(x[0], x[1], row)
			impl.Assembled(x[:])
		}
	}
	// One that is over may take a moment till it is no more counted.
	for waited := 0; runtime.NumGoroutine() > before; waited++ {
		if waited == 5000 {
			t.Fatalf("%d goroutines, there were %d", runtime.NumGoroutine(), before)
		}
		time.Sleep(time.Millisecond)
	}
}
