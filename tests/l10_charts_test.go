package tests

import (
	"fmt"
	"math"
	"slices"
	"testing"

	"loop.example/g00645/impl"
)

// move asks for nothing and sets nothing.
func move(from int, act int, to int) impl.Move {
	return impl.Move{From: from, Act: act, To: to, Set: -1}
}

func asking(m impl.Move, guard int, variable int, than int) impl.Move {
	m.Guard, m.Var, m.Than = guard, variable, than
	return m
}

func setting(m impl.Move, variable int, by int) impl.Move {
	m.Set, m.By = variable, by
	return m
}

func conf(place int, vars ...int) impl.Conf { return impl.Conf{Place: place, Vars: vars} }

// vendor counts coins, gives something for one, and may be out of order unseen.
func vendor() impl.Chart {
	return impl.Chart{
		Places: 3, Init: 1, Tops: []int{2, 1}, Ins: []int{0, 4}, Outs: []int{1, 6}, Hids: []int{7},
		Moves: []impl.Move{
			setting(move(1, 0, 1), 0, 1),
			asking(move(1, 4, 2), impl.GdMore, 0, 0),
			setting(asking(move(2, 1, 1), impl.GdEq, 1, 0), 0, -1),
			setting(asking(move(2, 7, 0), impl.GdLess, 0, 2), 1, 1),
			setting(move(0, 6, 1), 1, -1),
			move(0, 0, 0),
		},
	}
}

func vendorConfs() []impl.Conf {
	return []impl.Conf{conf(1, 0, 0), conf(1, 1, 0), conf(1, 2, 0), conf(2, 1, 0), conf(2, 2, 0), conf(0, 1, 1)}
}

func vendorIa() impl.Ia {
	return withSteps(impl.Ia{States: 6, Ins: []int{0, 4}, Outs: []int{1, 6}, Hids: []int{7}},
		[3]int{0, 0, 1}, [3]int{1, 0, 2}, [3]int{1, 4, 3}, [3]int{2, 4, 4}, [3]int{3, 1, 0}, [3]int{3, 7, 5},
		[3]int{4, 1, 1}, [3]int{5, 0, 5}, [3]int{5, 6, 1})
}

func cloneChart(c impl.Chart) impl.Chart {
	c.Tops, c.Ins, c.Outs, c.Hids = slices.Clone(c.Tops), slices.Clone(c.Ins), slices.Clone(c.Outs), slices.Clone(c.Hids)
	c.Moves = slices.Clone(c.Moves)
	return c
}

// rechart is changed for charts.
func rechart(c impl.Chart, change func(c *impl.Chart)) impl.Chart {
	c = cloneChart(c)
	change(&c)
	return c
}

func withMoves(c impl.Chart, moves ...impl.Move) impl.Chart {
	c.Moves = slices.Concat(c.Moves, moves)
	return c
}

func sameConf(x impl.Conf, y impl.Conf) bool {
	return x.Place == y.Place && slices.Equal(x.Vars, y.Vars)
}

func sameConfs(x []impl.Conf, y []impl.Conf) bool { return slices.EqualFunc(x, y, sameConf) }

func cloneConfs(confs []impl.Conf) []impl.Conf {
	confs = slices.Clone(confs)
	for i := range confs {
		confs[i].Vars = slices.Clone(confs[i].Vars)
	}
	return confs
}

// wantedChartOk is the document's sentence on ChartOk, point by point, with no code of the program.
func wantedChartOk(c impl.Chart) bool {
	in := func(x int, least int, most int) bool { return least <= x && x <= most }
	sets := impl.Ia{States: 1, Ins: c.Ins, Outs: c.Outs, Hids: c.Hids}
	if !in(c.Places, 1, 6) || !in(c.Init, 0, c.Places-1) || len(c.Tops) > 2 || len(c.Moves) > 30 || !wantedOk(sets) {
		return false
	}
	for _, top := range c.Tops {
		if !in(top, 0, 4) {
			return false
		}
	}
	for _, m := range c.Moves {
		places := in(m.From, 0, c.Places-1) && in(m.To, 0, c.Places-1)
		guard := m.Guard == 0 && m.Var == 0 && m.Than == 0 || in(m.Guard, 1, 3) && in(m.Var, 0, len(c.Tops)-1) && in(m.Than, 0, 4)
		set := m.Set == -1 && m.By == 0 || in(m.Set, 0, len(c.Tops)-1) && in(m.By, -4, 4)
		if !places || kindOf(sets, m.Act) == "" || !guard || !set {
			return false
		}
	}
	return true
}

// allConfs gives all that are ConfOk, by Place, then by Vars, whether they may be come to or not.
func allConfs(c impl.Chart) []impl.Conf {
	var confs []impl.Conf
	for p := range c.Places {
		confs = append(confs, conf(p))
	}
	for _, top := range c.Tops {
		var longer []impl.Conf
		for _, x := range confs {
			for v := range top + 1 {
				longer = append(longer, conf(x.Place, append(slices.Clone(x.Vars), v)...))
			}
		}
		confs = longer
	}
	return confs
}

// leads is the document's sentence on Fire, asked of both ends of a move.
func leads(x impl.Conf, m impl.Move, y impl.Conf) bool {
	if x.Place != m.From || y.Place != m.To ||
		m.Guard == 1 && x.Vars[m.Var] != m.Than || m.Guard == 2 && x.Vars[m.Var] >= m.Than || m.Guard == 3 && x.Vars[m.Var] <= m.Than {
		return false
	}
	for i := range x.Vars {
		if i == m.Set && y.Vars[i]-x.Vars[i] != m.By || i != m.Set && y.Vars[i] != x.Vars[i] {
			return false
		}
	}
	return true
}

// doings is all that a chart may do: fired has at [i][m] the place in all of what move m makes of all[i], or -1.
type doings struct {
	c     impl.Chart
	ok    bool
	all   []impl.Conf
	fired [][]int
}

func wantedDoings(c impl.Chart) doings {
	w := doings{c: c, ok: wantedChartOk(c)}
	if !w.ok {
		return w
	}
	w.all = allConfs(c)
	for _, x := range w.all {
		var row []int
		for _, m := range c.Moves {
			row = append(row, slices.IndexFunc(w.all, func(y impl.Conf) bool { return leads(x, m, y) }))
		}
		w.fired = append(w.fired, row)
	}
	return w
}

// placeOf is -1 for one that is not ConfOk.
func (w doings) placeOf(x impl.Conf) int {
	return slices.IndexFunc(w.all, func(y impl.Conf) bool { return sameConf(x, y) })
}

func (w doings) wantedFirst() impl.Conf {
	if !w.ok {
		return impl.Conf{}
	}
	return conf(w.c.Init, make([]int, len(w.c.Tops))...)
}

func (w doings) wantedFire(x impl.Conf, m int) (impl.Conf, bool) {
	at := w.placeOf(x)
	if at < 0 || m < 0 || m >= len(w.c.Moves) || w.fired[at][m] < 0 {
		return impl.Conf{}, false
	}
	return w.all[w.fired[at][m]], true
}

// found gives the places in all of what may be come to, however many these are.
func (w doings) found() []int {
	list := []int{w.placeOf(w.wantedFirst())}
	for i := 0; i < len(list); i++ {
		for _, to := range w.fired[list[i]] {
			if to >= 0 && !slices.Contains(list, to) {
				list = append(list, to)
			}
		}
	}
	return list
}

func (w doings) wantedConfs() ([]impl.Conf, bool) {
	if !w.ok || len(w.found()) > 40 {
		return nil, false
	}
	var confs []impl.Conf
	for _, at := range w.found() {
		confs = append(confs, w.all[at])
	}
	return confs, true
}

// wantedExtract asks of each step that there might be whether it is made.
func (w doings) wantedExtract() (impl.Ia, bool) {
	if !w.ok || len(w.found()) > 40 {
		return impl.Ia{}, false
	}
	list := w.found()
	made := map[impl.Step]bool{}
	for from, at := range list {
		for m, to := range w.fired[at] {
			if to >= 0 {
				made[impl.Step{From: from, Act: w.c.Moves[m].Act, To: slices.Index(list, to)}] = true
			}
		}
	}
	a := impl.Ia{States: len(list), Ins: w.c.Ins, Outs: w.c.Outs, Hids: w.c.Hids}
	for from := range list {
		for act := range 12 {
			for to := range list {
				if x := (impl.Step{From: from, Act: act, To: to}); made[x] {
					a.Steps = append(a.Steps, x)
				}
			}
		}
	}
	if !wantedOk(a) {
		return impl.Ia{}, false
	}
	return a, true
}

// wrongConfs are not ConfOk of any chart with at most two variables, or only of a few.
func wrongConfs(c impl.Chart) []impl.Conf {
	first := conf(c.Init, make([]int, min(len(c.Tops), 5))...)
	confs := []impl.Conf{{}, conf(0, 0), conf(0, 0, 0), conf(0, 0, 0, 0), conf(-1), conf(6), conf(c.Places, first.Vars...), conf(-1, first.Vars...),
		conf(math.MinInt, first.Vars...), conf(math.MaxInt, first.Vars...), conf(c.Init, append(slices.Clone(first.Vars), 0)...)}
	for i := range first.Vars {
		confs = append(confs, conf(c.Init, first.Vars[1:]...))
		for _, v := range []int{-1, c.Tops[i] + 1, math.MinInt, math.MaxInt} {
			vars := slices.Clone(first.Vars)
			vars[i] = v
			confs = append(confs, conf(c.Init, vars...))
		}
	}
	return confs
}

// checkConf holds ConfOk, and Fire of all moves and of some that there are not, against the reference.
func (w doings) checkConf(t *testing.T, x impl.Conf) {
	t.Helper()
	if got, want := impl.ConfOk(w.c, x), w.placeOf(x) >= 0; got != want {
		t.Fatalf("ConfOk(%+v, %+v) = %v", w.c, x, got)
	}
	for _, m := range append(upTo(len(w.c.Moves)+2), -1, math.MinInt, math.MaxInt) {
		got, ok := impl.Fire(w.c, x, m)
		want, is := w.wantedFire(x, m)
		if ok != is || !sameConf(got, want) {
			t.Fatalf("Fire(%+v, %+v, %d) = %+v, %v, want %+v, %v", w.c, x, m, got, ok, want, is)
		}
	}
}

// doneByChart has all that chapter 10 answers of one chart alone.
type doneByChart struct {
	ok        bool
	first     impl.Conf
	confs     []impl.Conf
	isConfs   bool
	ia        impl.Ia
	isExtract bool
}

func doneBy(c impl.Chart) doneByChart {
	x := doneByChart{ok: impl.ChartOk(c), first: impl.First(c)}
	x.confs, x.isConfs = impl.Confs(c)
	x.ia, x.isExtract = impl.Extract(c)
	return x
}

func (w doings) wantedDone() doneByChart {
	x := doneByChart{ok: w.ok, first: w.wantedFirst()}
	x.confs, x.isConfs = w.wantedConfs()
	x.ia, x.isExtract = w.wantedExtract()
	return x
}

func (x doneByChart) same(y doneByChart) bool {
	return x.ok == y.ok && sameConf(x.first, y.first) && x.isConfs == y.isConfs && sameConfs(x.confs, y.confs) && x.isExtract == y.isExtract && sameIa(x.ia, y.ia)
}

func (x doneByChart) clone() doneByChart {
	x.first.Vars, x.confs, x.ia = slices.Clone(x.first.Vars), cloneConfs(x.confs), cloneIa(x.ia)
	return x
}

func (x doneByChart) scribble() {
	scribble(x.first.Vars)
	for _, y := range x.confs {
		scribble(y.Vars)
	}
	scribbleOf(x.confs, conf(overwritten))
	scribbleIa(x.ia)
}

// checkChart holds what is answered of the chart alone against the reference, and against promise 10.
func checkChart(t *testing.T, c impl.Chart) doneByChart {
	t.Helper()
	got, want := doneBy(c), wantedDoings(c).wantedDone()
	if !got.same(want) {
		t.Fatalf("of %+v: %+v, want %+v", c, got, want)
	}
	if got.isExtract {
		checkDoesTheSame(t, c)
	}
	return got
}

// checkFires holds besides all that may be fired, and all that may not, against the reference.
func checkFires(t *testing.T, c impl.Chart) doneByChart {
	t.Helper()
	w := wantedDoings(c)
	for _, x := range slices.Concat(w.all, wrongConfs(c)) {
		w.checkConf(t, x)
	}
	return checkChart(t, c)
}

// checkDoesTheSame is promise 10, asked of the program alone: what a chart does its automaton does, and nothing else.
func checkDoesTheSame(t *testing.T, c impl.Chart) {
	t.Helper()
	a, ok := impl.Extract(c)
	confs, is := impl.Confs(c)
	if !ok || !is || !impl.IaOk(a) || a.Init != 0 || a.States != len(confs) || !sameConf(confs[0], impl.First(c)) || len(impl.Reached(a)) != a.States ||
		!slices.Equal(a.Ins, c.Ins) || !slices.Equal(a.Outs, c.Outs) || !slices.Equal(a.Hids, c.Hids) {
		t.Fatalf("Extract(%+v) = %+v, %v, with the Confs %+v, %v", c, a, ok, confs, is)
	}
	made := map[impl.Step]bool{}
	for from, x := range confs {
		for i, m := range c.Moves {
			y, fires := impl.Fire(c, x, i)
			if !fires {
				continue
			}
			to := slices.IndexFunc(confs, func(z impl.Conf) bool { return sameConf(y, z) })
			if !impl.ConfOk(c, y) || !slices.Contains(impl.After(a, from, m.Act), to) {
				t.Fatalf("of %+v move %d makes %+v of %+v, but its automaton %+v does not", c, i, y, x, a)
			}
			made[impl.Step{From: from, Act: m.Act, To: to}] = true
		}
	}
	for _, x := range a.Steps {
		if !made[x] {
			t.Fatalf("the automaton %+v of %+v makes the step %+v, but no move does", a, c, x)
		}
	}
	if len(made) != len(a.Steps) {
		t.Fatalf("Extract(%+v) = %+v: %d steps are made", c, a, len(made))
	}
}

func TestChartConstants(t *testing.T) {
	got := []int{impl.MaxPlaces, impl.MaxVars, impl.MaxTop, impl.MaxMoves, impl.GdNone, impl.GdEq, impl.GdLess, impl.GdMore}
	if !slices.Equal(got, []int{6, 2, 4, 30, 0, 1, 2, 3}) {
		t.Fatal(got)
	}
}

// moves gives n that are the same.
func moves(n int, m impl.Move) []impl.Move { return slices.Repeat([]impl.Move{m}, n) }

func goodSizes() map[string]impl.Chart {
	return map[string]impl.Chart{
		"one place and nothing else":  {Places: 1},
		"six places":                  {Places: 6},
		"six places, the last Init":   {Places: 6, Init: 5},
		"one Top of 0":                {Places: 1, Tops: []int{0}},
		"two Tops of 0":               {Places: 2, Tops: []int{0, 0}},
		"one Top of 4":                {Places: 1, Tops: []int{4}},
		"two Tops of 4":               {Places: 6, Tops: []int{4, 4}},
		"Tops that do not rise":       {Places: 2, Tops: []int{3, 1}},
		"the least and last action":   {Places: 1, Ins: []int{0}, Outs: []int{11}},
		"all actions Ins":             {Places: 1, Ins: upTo(12)},
		"all actions Outs":            {Places: 1, Outs: upTo(12)},
		"all actions Hids":            {Places: 1, Hids: upTo(12)},
		"all actions in three":        {Places: 1, Ins: []int{1, 4, 7, 10}, Outs: []int{0, 3, 6, 9}, Hids: []int{2, 5, 8, 11}},
		"vendor":                      vendor(),
		"vendor without moves":        rechart(vendor(), func(c *impl.Chart) { c.Moves = nil }),
		"29 moves":                    withMoves(vendor(), moves(23, move(2, 7, 2))...),
		"30 moves":                    withMoves(vendor(), moves(24, move(2, 7, 2))...),
		"30 moves, one hidden action": {Places: 1, Hids: []int{3}, Moves: moves(30, move(0, 3, 0))},
		"moves that do not rise":      rechart(vendor(), func(c *impl.Chart) { slices.Reverse(c.Moves) }),
		"each move twice":             withMoves(vendor(), vendor().Moves...),
	}
}

// goodMoves are right at the end of vendor.
func goodMoves() map[string]impl.Move {
	return map[string]impl.Move{
		"from the last place":           move(2, 0, 0),
		"to the last place":             move(0, 0, 2),
		"with a further input":          move(1, 0, 0),
		"with the last of Ins":          move(0, 4, 0),
		"with the last of Outs":         move(0, 6, 0),
		"with one of Hids":              move(0, 7, 0),
		"asks for 0":                    asking(move(0, 1, 0), impl.GdEq, 0, 0),
		"asks for MaxTop":               asking(move(0, 1, 0), impl.GdEq, 1, 4),
		"asks for less than 0":          asking(move(0, 1, 0), impl.GdLess, 0, 0),
		"asks for less than MaxTop":     asking(move(0, 1, 0), impl.GdLess, 1, 4),
		"asks for more than 0":          asking(move(0, 1, 0), impl.GdMore, 1, 0),
		"asks for more than MaxTop":     asking(move(0, 1, 0), impl.GdMore, 0, 4),
		"asks the last variable":        asking(move(0, 1, 0), impl.GdMore, 1, 3),
		"sets the first one by 0":       setting(move(0, 1, 0), 0, 0),
		"sets the last one by 0":        setting(move(0, 1, 0), 1, 0),
		"sets by MaxTop":                setting(move(0, 1, 0), 0, 4),
		"sets by MaxTop, the last one":  setting(move(0, 1, 0), 1, 4),
		"sets by -MaxTop":               setting(move(0, 1, 0), 0, -4),
		"sets by -MaxTop, the last one": setting(move(0, 1, 0), 1, -4),
		"asks for one, sets it":         setting(asking(move(0, 1, 0), impl.GdMore, 1, 3), 1, -2),
		"asks for one, sets another":    setting(asking(move(0, 1, 0), impl.GdLess, 1, 3), 0, 2),
	}
}

func goodCharts() map[string]impl.Chart {
	all := goodSizes()
	for name, m := range goodMoves() {
		all["a move "+name] = withMoves(vendor(), m)
		all["a move at first "+name] = rechart(vendor(), func(c *impl.Chart) { c.Moves = slices.Insert(c.Moves, 0, m) })
	}
	return all
}

// outside are numbers that are none of 0 .. most, the nearest first.
func outside(most int) []int { return []int{-1, most + 1, -2, most + 2, 99, math.MinInt, math.MaxInt} }

func badSizesOfCharts() map[string]impl.Chart {
	all := map[string]impl.Chart{
		"nothing":              {},
		"three Tops":           {Places: 1, Tops: []int{0, 0, 0}},
		"31 moves":             withMoves(vendor(), moves(25, move(2, 7, 2))...),
		"31 moves, no more":    {Places: 1, Hids: []int{3}, Moves: moves(31, move(0, 3, 0))},
		"many Tops":            {Places: 1, Tops: make([]int, 1000)},
		"many moves":           {Places: 1, Hids: []int{3}, Moves: moves(1000, move(0, 3, 0))},
		"no place, but a move": rechart(vendor(), func(c *impl.Chart) { c.Places, c.Init = 0, 0 }),
	}
	for _, n := range outside(5) {
		all[fmt.Sprint("places ", n+1)] = impl.Chart{Places: n + 1}
		all[fmt.Sprint("Init ", n, " of six")] = impl.Chart{Places: 6, Init: n}
	}
	for _, n := range outside(2) {
		all[fmt.Sprint("Init ", n, " of vendor")] = rechart(vendor(), func(c *impl.Chart) { c.Init = n })
	}
	for _, n := range outside(4) {
		all[fmt.Sprint("one Top ", n)] = impl.Chart{Places: 1, Tops: []int{n}}
		for i := range 2 {
			all[fmt.Sprint("Top ", i, " is ", n)] = rechart(vendor(), func(c *impl.Chart) { c.Tops[i] = n })
		}
	}
	return all
}

func badSetsOfCharts() map[string]impl.Chart {
	all := map[string]impl.Chart{}
	sets := map[string]func(c *impl.Chart) *[]int{
		"Ins":  func(c *impl.Chart) *[]int { return &c.Ins },
		"Outs": func(c *impl.Chart) *[]int { return &c.Outs },
		"Hids": func(c *impl.Chart) *[]int { return &c.Hids },
	}
	wrong := map[string][]int{
		"do not rise":        {3, 2},
		"have a double":      {3, 3},
		"begin below 0":      {-1, 3},
		"end past the last":  {3, 12},
		"are all and beyond": upTo(13),
	}
	for name, of := range sets {
		for what, set := range wrong {
			all[name+" that "+what] = rechart(impl.Chart{Places: 1}, func(c *impl.Chart) { *of(c) = set })
		}
		all[name+" of vendor turned round"] = rechart(vendor(), func(c *impl.Chart) { *of(c) = append(*of(c), (*of(c))[0]) })
		for other, ofOther := range sets {
			if other != name {
				all["in "+name+" and in "+other] = rechart(impl.Chart{Places: 1}, func(c *impl.Chart) { *of(c), *ofOther(c) = []int{2, 5}, []int{5, 8} })
			}
		}
	}
	return all
}

// badMoves are wrong in vendor, wherever they stand.
func badMoves() map[string]impl.Move {
	all := map[string]impl.Move{
		"that is all 0 but for a Guard":    {Guard: impl.GdEq, Var: 2, Set: -1},
		"that has Var without a Guard":     {Var: 1, Set: -1},
		"that has Than without a Guard":    {Than: 1, Set: -1},
		"that has both without a Guard":    {Var: 1, Than: 1, Set: -1},
		"that has Var -1 without a Guard":  {Var: -1, Set: -1},
		"that has Than -1 without a Guard": {Than: -1, Set: -1},
		"that sets none by 1":              setting(move(0, 0, 0), -1, 1),
		"that sets none by -1":             setting(move(0, 0, 0), -1, -1),
		"that sets none by 4":              setting(move(0, 0, 0), -1, 4),
	}
	for _, n := range outside(2) {
		all[fmt.Sprint("from ", n)] = move(n, 0, 0)
		all[fmt.Sprint("to ", n)] = move(0, 0, n)
	}
	for _, act := range []int{-1, 2, 3, 5, 8, 9, 10, 11, 12, 64, 71, math.MinInt, math.MaxInt} {
		all[fmt.Sprint("with ", act)] = move(0, act, 0)
	}
	for _, guard := range outside(3) {
		all[fmt.Sprint("with Guard ", guard)] = asking(move(0, 0, 0), guard, 0, 0)
	}
	for guard := 1; guard <= 3; guard++ {
		for _, n := range outside(1) {
			all[fmt.Sprint("with Guard ", guard, " of variable ", n)] = asking(move(0, 0, 0), guard, n, 0)
		}
		for _, n := range outside(4) {
			all[fmt.Sprint("with Guard ", guard, " and ", n)] = asking(move(0, 0, 0), guard, 0, n)
		}
	}
	for _, n := range outside(1)[1:] {
		all[fmt.Sprint("that sets variable ", n)] = setting(move(0, 0, 0), n, 0)
	}
	for _, by := range []int{-5, 5, -6, 6, math.MinInt, math.MaxInt} {
		all[fmt.Sprint("that sets by ", by)] = setting(move(0, 0, 0), 1, by)
	}
	return all
}

func badCharts() map[string]impl.Chart {
	all := badSizesOfCharts()
	for name, c := range badSetsOfCharts() {
		all[name] = c
	}
	for name, m := range badMoves() {
		all["a move "+name] = withMoves(vendor(), m)
		all["a move at first "+name] = rechart(vendor(), func(c *impl.Chart) { c.Moves = slices.Insert(c.Moves, 0, m) })
	}
	for guard := 1; guard <= 3; guard++ {
		all[fmt.Sprint("no Tops, Guard ", guard)] = impl.Chart{Places: 1, Outs: []int{0}, Moves: []impl.Move{asking(move(0, 0, 0), guard, 0, 0)}}
		all[fmt.Sprint("one Top, Guard ", guard, " of another")] = impl.Chart{Places: 1, Tops: []int{4}, Outs: []int{0}, Moves: []impl.Move{asking(move(0, 0, 0), guard, 1, 0)}}
	}
	all["no Tops, Set 0"] = impl.Chart{Places: 1, Outs: []int{0}, Moves: []impl.Move{{}}}
	all["one Top, Set 1"] = impl.Chart{Places: 1, Tops: []int{4}, Outs: []int{0}, Moves: []impl.Move{setting(move(0, 0, 0), 1, 0)}}
	all["no actions, but a move"] = impl.Chart{Places: 1, Moves: []impl.Move{move(0, 0, 0)}}
	return all
}

func TestChartOkIsTrue(t *testing.T) {
	for name, c := range goodCharts() {
		if !impl.ChartOk(c) || !wantedChartOk(c) {
			t.Errorf("%s: ChartOk %v, wanted %v: %+v", name, impl.ChartOk(c), wantedChartOk(c), c)
		}
	}
}

func TestChartOkIsFalse(t *testing.T) {
	for name, c := range badCharts() {
		if impl.ChartOk(c) || wantedChartOk(c) {
			t.Errorf("%s: ChartOk %v, wanted %v: %+v", name, impl.ChartOk(c), wantedChartOk(c), c)
		}
	}
}

func TestNothingOfWrongCharts(t *testing.T) {
	for name, c := range badCharts() {
		for _, x := range slices.Concat(vendorConfs(), wrongConfs(c)) {
			if impl.ConfOk(c, x) {
				t.Errorf("%s: ConfOk of %+v", name, x)
			}
			for m := -1; m <= min(len(c.Moves), 32); m++ {
				if y, ok := impl.Fire(c, x, m); ok || !sameConf(y, impl.Conf{}) {
					t.Errorf("%s: Fire of %+v and %d: %+v, %v", name, x, m, y, ok)
				}
			}
		}
		if got := doneBy(c); !got.same(doneByChart{}) {
			t.Errorf("%s: %+v", name, got)
		}
	}
}

func TestGoodChartsByReference(t *testing.T) {
	for _, c := range goodCharts() {
		checkFires(t, c)
	}
}

func TestConfOkByHand(t *testing.T) {
	plain, high := impl.Chart{Places: 6}, impl.Chart{Places: 2, Tops: []int{4, 0}}
	one := impl.Chart{Places: 2, Tops: []int{3}}
	tests := []struct {
		name string
		c    impl.Chart
		x    impl.Conf
		want bool
	}{
		{"the first", vendor(), conf(1, 0, 0), true},
		{"one that can't be come to", vendor(), conf(0, 0, 0), true},
		{"both at their Tops", vendor(), conf(2, 2, 1), true},
		{"the first past its Top", vendor(), conf(2, 3, 1), false},
		{"the second past its Top", vendor(), conf(2, 2, 2), false},
		{"the first below 0", vendor(), conf(1, -1, 0), false},
		{"the second below 0", vendor(), conf(1, 0, -1), false},
		{"far past its Top", vendor(), conf(1, math.MaxInt, 0), false},
		{"far below 0", vendor(), conf(1, 0, math.MinInt), false},
		{"Place below 0", vendor(), conf(-1, 0, 0), false},
		{"Place past the end", vendor(), conf(3, 0, 0), false},
		{"Place far past the end", vendor(), conf(math.MaxInt, 0, 0), false},
		{"Place far below 0", vendor(), conf(math.MinInt, 0, 0), false},
		{"no Vars", vendor(), conf(1), false},
		{"one of two Vars", vendor(), conf(1, 0), false},
		{"three of two Vars", vendor(), conf(1, 0, 0, 0), false},
		{"no Vars, where there are none", plain, conf(0), true},
		{"the last place", plain, conf(5), true},
		{"past the last place", plain, conf(6), false},
		{"Vars that are empty", plain, impl.Conf{Place: 2, Vars: []int{}}, true},
		{"one of no Vars", plain, conf(0, 0), false},
		{"one at MaxTop, one at a Top of 0", high, conf(1, 4, 0), true},
		{"one past MaxTop", high, conf(1, 5, 0), false},
		{"one past a Top of 0", high, conf(1, 4, 1), false},
		{"one below a Top of 0", high, conf(1, 4, -1), false},
		{"one variable", one, conf(0, 3), true},
		{"one variable past its Top", one, conf(0, 4), false},
		{"two of one Vars", one, conf(0, 3, 0), false},
		{"many of one Vars", one, conf(0, make([]int, 1000)...), false},
		{"nothing of one that has a variable", one, impl.Conf{}, false},
		{"nothing of one that has none", plain, impl.Conf{}, true},
		{"a chart that is not ChartOk", rechart(vendor(), func(c *impl.Chart) { c.Tops[1] = 5 }), conf(1, 0, 0), false},
		{"no chart", impl.Chart{}, impl.Conf{}, false},
	}
	for _, x := range tests {
		if got := impl.ConfOk(x.c, x.x); got != x.want {
			t.Errorf("%s: %v", x.name, got)
		}
		wantedDoings(x.c).checkConf(t, x.x)
	}
}

func TestFirstByHand(t *testing.T) {
	tests := []struct {
		name string
		c    impl.Chart
		want impl.Conf
	}{
		{"vendor", vendor(), conf(1, 0, 0)},
		{"one place", impl.Chart{Places: 1}, conf(0)},
		{"the last place", impl.Chart{Places: 6, Init: 5}, conf(5)},
		{"one variable", impl.Chart{Places: 2, Init: 1, Tops: []int{3}}, conf(1, 0)},
		{"Tops of 0", impl.Chart{Places: 2, Tops: []int{0, 0}}, conf(0, 0, 0)},
		{"not ChartOk", impl.Chart{Places: 2, Init: 2, Tops: []int{3}}, impl.Conf{}},
		{"a wrong move", withMoves(vendor(), move(0, 2, 0)), impl.Conf{}},
	}
	for _, x := range tests {
		if got := impl.First(x.c); !sameConf(got, x.want) {
			t.Errorf("%s: %+v", x.name, got)
		}
	}
}

func TestFireByHand(t *testing.T) {
	no := impl.Conf{}
	tests := []struct {
		name string
		x    impl.Conf
		m    impl.Move
		want impl.Conf
	}{
		{"nothing asked, nothing set", conf(1, 2, 1), move(1, 0, 2), conf(2, 2, 1)},
		{"to the same place", conf(1, 2, 1), move(1, 0, 1), conf(1, 2, 1)},
		{"from another place", conf(0, 2, 1), move(1, 0, 2), no},
		{"from where it goes", conf(2, 2, 1), move(1, 0, 2), no},
		{"an output", conf(0, 0, 0), move(0, 1, 1), conf(1, 0, 0)},
		{"hidden", conf(0, 0, 0), move(0, 7, 2), conf(2, 0, 0)},
		{"is 2", conf(0, 2, 0), asking(move(0, 0, 1), impl.GdEq, 0, 2), conf(1, 2, 0)},
		{"is 2, one less", conf(0, 1, 0), asking(move(0, 0, 1), impl.GdEq, 0, 2), no},
		{"is 2, one more", conf(0, 3, 0), asking(move(0, 0, 1), impl.GdEq, 0, 2), no},
		{"is 0", conf(0, 2, 0), asking(move(0, 0, 1), impl.GdEq, 1, 0), conf(1, 2, 0)},
		{"is 0, but it is 1", conf(0, 2, 1), asking(move(0, 0, 1), impl.GdEq, 1, 0), no},
		{"is what the other one is", conf(0, 3, 1), asking(move(0, 0, 1), impl.GdEq, 1, 3), no},
		{"is more than its Top", conf(0, 3, 1), asking(move(0, 0, 1), impl.GdEq, 0, 4), no},
		{"less than 2", conf(0, 1, 2), asking(move(0, 0, 1), impl.GdLess, 0, 2), conf(1, 1, 2)},
		{"less than 2, the same", conf(0, 2, 1), asking(move(0, 0, 1), impl.GdLess, 0, 2), no},
		{"less than 2, more", conf(0, 3, 1), asking(move(0, 0, 1), impl.GdLess, 0, 2), no},
		{"less than 0", conf(0, 0, 0), asking(move(0, 0, 1), impl.GdLess, 0, 0), no},
		{"less than MaxTop, at its Top", conf(0, 3, 2), asking(move(0, 0, 1), impl.GdLess, 0, 4), conf(1, 3, 2)},
		{"more than 1", conf(0, 0, 2), asking(move(0, 0, 1), impl.GdMore, 1, 1), conf(1, 0, 2)},
		{"more than 1, the same", conf(0, 3, 1), asking(move(0, 0, 1), impl.GdMore, 1, 1), no},
		{"more than 1, less", conf(0, 3, 0), asking(move(0, 0, 1), impl.GdMore, 1, 1), no},
		{"more than 0", conf(0, 0, 0), asking(move(0, 0, 1), impl.GdMore, 0, 0), no},
		{"more than MaxTop", conf(0, 3, 2), asking(move(0, 0, 1), impl.GdMore, 0, 4), no},
		{"one more", conf(0, 1, 1), setting(move(0, 0, 1), 0, 1), conf(1, 2, 1)},
		{"one less", conf(0, 1, 1), setting(move(0, 0, 1), 1, -1), conf(1, 1, 0)},
		{"just to the Top", conf(0, 0, 1), setting(move(0, 0, 1), 0, 3), conf(1, 3, 1)},
		{"past the Top", conf(0, 1, 1), setting(move(0, 0, 1), 0, 3), no},
		{"past the Top, though not past the other one", conf(0, 1, 2), setting(move(0, 0, 1), 1, 1), no},
		{"past the other Top alone", conf(0, 2, 2), setting(move(0, 0, 1), 0, 1), conf(1, 3, 2)},
		{"far past the Top", conf(0, 3, 0), setting(move(0, 0, 1), 0, 4), no},
		{"just to 0", conf(0, 3, 1), setting(move(0, 0, 1), 0, -3), conf(1, 0, 1)},
		{"below 0", conf(0, 2, 1), setting(move(0, 0, 1), 0, -3), no},
		{"far below 0", conf(0, 0, 2), setting(move(0, 0, 1), 0, -4), no},
		{"by 0", conf(0, 2, 1), setting(move(0, 0, 1), 0, 0), conf(1, 2, 1)},
		{"by 0 at the Top", conf(0, 3, 2), setting(move(0, 0, 1), 1, 0), conf(1, 3, 2)},
		{"to itself, set", conf(0, 1, 0), setting(move(0, 0, 0), 1, 2), conf(0, 1, 2)},
		{"asks for what it sets, as it was", conf(0, 2, 0), setting(asking(move(0, 0, 1), impl.GdEq, 0, 2), 0, -2), conf(1, 0, 0)},
		{"asks for what it sets, not as it will be", conf(0, 2, 0), setting(asking(move(0, 0, 1), impl.GdEq, 0, 0), 0, -2), no},
		{"less as it was", conf(0, 1, 0), setting(asking(move(0, 0, 1), impl.GdLess, 0, 2), 0, 2), conf(1, 3, 0)},
		{"less only as it will be", conf(0, 3, 0), setting(asking(move(0, 0, 1), impl.GdLess, 0, 2), 0, -3), no},
		{"more as it was", conf(0, 0, 2), setting(asking(move(0, 0, 1), impl.GdMore, 1, 1), 1, -2), conf(1, 0, 0)},
		{"more only as it will be", conf(0, 0, 0), setting(asking(move(0, 0, 1), impl.GdMore, 1, 1), 1, 2), no},
		{"holds, but past the Top", conf(0, 3, 0), setting(asking(move(0, 0, 1), impl.GdEq, 0, 3), 0, 1), no},
		{"holds, and sets the other one", conf(0, 3, 0), setting(asking(move(0, 0, 1), impl.GdEq, 0, 3), 1, 1), conf(1, 3, 1)},
		{"does not hold, and sets the other one", conf(0, 2, 0), setting(asking(move(0, 0, 1), impl.GdEq, 0, 3), 1, 1), no},
		{"holds, but at another place", conf(1, 3, 0), asking(move(0, 0, 1), impl.GdEq, 0, 3), no},
		{"not ConfOk, but asked for nothing", conf(0, 4, 0), move(0, 0, 1), no},
		{"not ConfOk, but would be", conf(0, 4, 0), setting(move(0, 0, 1), 0, -1), no},
		{"not ConfOk, for want of one", conf(0, 3), move(0, 0, 1), no},
		{"not ConfOk, for one more", conf(0, 3, 0, 0), move(0, 0, 1), no},
		{"at no place", conf(3, 0, 0), move(0, 0, 1), no},
	}
	for _, x := range tests {
		// The move stands between two others, so that its place counts.
		c := impl.Chart{Places: 3, Tops: []int{3, 2}, Ins: []int{0}, Outs: []int{1}, Hids: []int{7}, Moves: []impl.Move{move(2, 1, 0), x.m, move(1, 7, 0)}}
		got, ok := impl.Fire(c, x.x, 1)
		if ok != (len(x.want.Vars) > 0) || !sameConf(got, x.want) {
			t.Errorf("%s: %+v, %v", x.name, got, ok)
		}
		checkFires(t, c)
	}
}

func TestFireOfMovesThatAreNot(t *testing.T) {
	first := impl.First(vendor())
	for _, m := range outside(5) {
		if got, ok := impl.Fire(vendor(), first, m); ok || !sameConf(got, impl.Conf{}) {
			t.Errorf("move %d: %+v, %v", m, got, ok)
		}
	}
	if got, ok := impl.Fire(vendor(), first, 0); !ok || !sameConf(got, conf(1, 1, 0)) {
		t.Errorf("move 0: %+v, %v", got, ok)
	}
	if got, ok := impl.Fire(vendor(), conf(0, 2, 1), 5); !ok || !sameConf(got, conf(0, 2, 1)) {
		t.Errorf("move 5: %+v, %v", got, ok)
	}
	for _, c := range []impl.Chart{{Places: 1}, {Places: 2, Tops: []int{1}}} {
		if got, ok := impl.Fire(c, impl.First(c), 0); ok || !sameConf(got, impl.Conf{}) {
			t.Errorf("no moves: %+v, %v", got, ok)
		}
	}
}

// allMoves gives each move between two places with one action: each Guard and Than, each Set and By.
func allMoves(variables int, from int, act int, to int) []impl.Move {
	asked := []impl.Move{move(from, act, to)}
	for variable := range variables {
		for than := range 5 {
			for guard := 1; guard <= 3; guard++ {
				asked = append(asked, asking(asked[0], guard, variable, than))
			}
		}
	}
	all := slices.Clone(asked)
	for _, m := range asked {
		for variable := range variables {
			for by := -4; by <= 4; by++ {
				all = append(all, setting(m, variable, by))
			}
		}
	}
	return all
}

// Fire of each move that there may be, from each Conf.
func TestFireOfAllMoves(t *testing.T) {
	count := 0
	for _, tops := range [][]int{nil, {0}, {1}, {4}, {0, 0}, {2, 3}, {4, 1}, {4, 4}} {
		c := impl.Chart{Places: 2, Init: 1, Tops: tops, Outs: []int{3}}
		for m := range slices.Chunk(allMoves(len(tops), 1, 3, 0), 30) {
			c.Moves = m
			w := wantedDoings(c)
			for i, x := range w.all {
				for k := range c.Moves {
					got, ok := impl.Fire(c, x, k)
					if to := w.fired[i][k]; ok != (to >= 0) || ok && !sameConf(got, w.all[to]) || !ok && !sameConf(got, impl.Conf{}) {
						t.Fatalf("Fire(%+v, %+v, %d) = %+v, %v", c, x, k, got, ok)
					}
					if ok {
						count++
					}
				}
			}
		}
	}
	if count < 5000 {
		t.Fatalf("%d are fired: too few to tell", count)
	}
}

// tallier counts up to top with 0, and down with 1.
func tallier(top int) impl.Chart {
	return impl.Chart{Places: 1, Tops: []int{top}, Ins: []int{0}, Outs: []int{1}, Moves: []impl.Move{setting(move(0, 0, 0), 0, 1), setting(move(0, 1, 0), 0, -1)}}
}

func plainChart(places int, init int, moves ...impl.Move) impl.Chart {
	return impl.Chart{Places: places, Init: init, Ins: []int{0, 2}, Outs: []int{1, 3}, Hids: []int{5}, Moves: moves}
}

func TestConfsByHand(t *testing.T) {
	tests := []struct {
		name string
		c    impl.Chart
		want []impl.Conf
	}{
		{"no moves", impl.Chart{Places: 6, Init: 3, Tops: []int{4, 4}}, []impl.Conf{conf(3, 0, 0)}},
		{"vendor", vendor(), vendorConfs()},
		{"tallier", tallier(4), []impl.Conf{conf(0, 0), conf(0, 1), conf(0, 2), conf(0, 3), conf(0, 4)}},
		{"in the order of the moves, not of the places", plainChart(3, 0, move(0, 1, 2), move(0, 1, 1)), []impl.Conf{conf(0), conf(2), conf(1)}},
		{"in the order of the moves, not of the actions", plainChart(3, 0, move(0, 3, 1), move(0, 0, 2)), []impl.Conf{conf(0), conf(1), conf(2)}},
		{"one by one, not to the depth", plainChart(5, 0, move(1, 1, 3), move(2, 1, 4), move(0, 1, 1), move(0, 3, 2)), []impl.Conf{conf(0), conf(1), conf(2), conf(3), conf(4)}},
		{"one by one, though the moves of the second stand ahead", plainChart(5, 0, move(2, 1, 4), move(1, 1, 3), move(0, 3, 2), move(0, 1, 1)), []impl.Conf{conf(0), conf(2), conf(1), conf(4), conf(3)}},
		{"places that can't be come to", plainChart(6, 4, move(0, 1, 4), move(4, 0, 2), move(3, 1, 5), move(1, 5, 0)), []impl.Conf{conf(4), conf(2)}},
		{"along each kind of action", plainChart(4, 3, move(3, 0, 1), move(1, 1, 0), move(0, 5, 2)), []impl.Conf{conf(3), conf(1), conf(0), conf(2)}},
		{"to itself", plainChart(2, 1, move(1, 1, 1), move(1, 0, 1)), []impl.Conf{conf(1)}},
		{"twice the same", plainChart(2, 0, move(0, 1, 1), move(0, 1, 1), move(0, 3, 1)), []impl.Conf{conf(0), conf(1)}},
		{"back and forth", plainChart(2, 1, move(0, 1, 1), move(1, 3, 0)), []impl.Conf{conf(1), conf(0)}},
		{"by 2, past what is between", rechart(tallier(4), func(c *impl.Chart) { c.Moves[0].By = 2; c.Moves[1].By = -4 }), []impl.Conf{conf(0, 0), conf(0, 2), conf(0, 4)}},
		{"up to a Top that is not met", rechart(tallier(4), func(c *impl.Chart) { c.Moves[0].By = 3 }), []impl.Conf{conf(0, 0), conf(0, 3), conf(0, 2), conf(0, 1), conf(0, 4)}},
		{"a variable with a Top of 0", tallier(0), []impl.Conf{conf(0, 0)}},
		{"two variables at their Tops", impl.Chart{Places: 1, Tops: []int{1, 2}, Outs: []int{4, 6}, Moves: []impl.Move{setting(move(0, 6, 0), 1, 1), setting(move(0, 4, 0), 0, 1)}},
			[]impl.Conf{conf(0, 0, 0), conf(0, 0, 1), conf(0, 1, 0), conf(0, 0, 2), conf(0, 1, 1), conf(0, 1, 2)}},
		{"the same place with other Vars is another one", impl.Chart{Places: 2, Tops: []int{1}, Outs: []int{4}, Moves: []impl.Move{setting(move(0, 4, 1), 0, 1), move(0, 4, 1), move(1, 4, 0)}},
			[]impl.Conf{conf(0, 0), conf(1, 1), conf(1, 0), conf(0, 1)}},
		{"the Vars the other way round are others", impl.Chart{Places: 1, Tops: []int{2, 2}, Outs: []int{4}, Moves: []impl.Move{setting(asking(move(0, 4, 0), impl.GdEq, 1, 0), 0, 2), setting(asking(move(0, 4, 0), impl.GdEq, 0, 0), 1, 2)}},
			[]impl.Conf{conf(0, 0, 0), conf(0, 2, 0), conf(0, 0, 2)}},
		{"one input to two Confs", plainChart(3, 0, move(0, 0, 1), move(0, 0, 2)), []impl.Conf{conf(0), conf(1), conf(2)}},
	}
	for _, x := range tests {
		if got, ok := impl.Confs(x.c); !ok || !sameConfs(got, x.want) {
			t.Errorf("%s: %+v, %v, want %+v", x.name, got, ok, x.want)
		}
		checkFires(t, x.c)
	}
}

// full comes from place 0 to each place, and counts both variables up wherever it is; it says 1, 2 and 3.
func full(places int, tops ...int) impl.Chart {
	c := impl.Chart{Places: places, Tops: tops, Ins: []int{0}, Outs: []int{1, 2, 3}, Hids: []int{4}}
	for p := range places {
		c.Moves = append(c.Moves, move(0, 1, p))
		for i := range tops {
			c.Moves = append(c.Moves, setting(move(p, 2+i, p), i, 1))
		}
	}
	return c
}

func TestConfsAtTheLimit(t *testing.T) {
	// grid has 25 Confs in place 0, of which five for each value below less lead to one in place 1 each.
	grid := func(less int, more ...impl.Move) impl.Chart {
		c := withMoves(full(1, 4, 4), asking(move(0, 1, 1), impl.GdLess, 0, less))
		c.Places = 6
		return withMoves(c, more...)
	}
	last := setting(asking(move(0, 1, 2), impl.GdEq, 0, 4), 1, 4)
	tests := []struct {
		name string
		c    impl.Chart
		want int
	}{
		{"25", full(1, 4, 4), 25},
		{"36", full(6, 1, 2), 36},
		{"39", grid(2, setting(asking(move(0, 1, 2), impl.GdEq, 0, 4), 1, 1)), 39},
		{"40 of five places", full(5, 3, 1), 40},
		{"40 of five places, Tops the other way round", full(5, 1, 3), 40},
		{"40 of five places, the moves the other way round", rechart(full(5, 3, 1), func(c *impl.Chart) { slices.Reverse(c.Moves) }), 40},
		{"40 of two places", grid(3), 40},
		{"40, and much that leads to none", grid(3, setting(asking(move(1, 1, 2), impl.GdEq, 0, 2), 0, 3), asking(move(1, 1, 3), impl.GdMore, 0, 2), move(4, 1, 5)), 40},
		{"40, and much that leads back", grid(3, move(1, 1, 0), move(1, 4, 1), setting(move(1, 4, 0), 0, -1)), 40},
		{"41, the last by an output", grid(3, last), 41},
		{"41, the last from the last ones", grid(3, setting(asking(move(1, 1, 2), impl.GdEq, 0, 2), 1, -4)), 41},
		{"41, the last by an input", grid(3, setting(asking(move(1, 0, 2), impl.GdEq, 0, 0), 1, -4)), 41},
		{"41, the last hidden", grid(3, setting(asking(move(0, 4, 5), impl.GdEq, 0, 4), 1, 4)), 41},
		{"41, by the first of the moves", rechart(grid(3), func(c *impl.Chart) { c.Moves = slices.Insert(c.Moves, 0, last) }), 41},
		{"42", grid(3, last, setting(last, 1, -4)), 42},
		{"48", full(6, 3, 1), 48},
		{"50", full(2, 4, 4), 50},
		{"150", full(6, 4, 4), 150},
	}
	for _, x := range tests {
		if all := len(wantedDoings(x.c).found()); all != x.want {
			t.Errorf("%s: %d", x.name, all)
		}
		got := checkFires(t, x.c)
		if is := x.want <= 40; got.isConfs != is || got.isExtract != is || is && (len(got.confs) != x.want || got.ia.States != x.want) {
			t.Errorf("%s: %d, %v, %d states, %v", x.name, len(got.confs), got.isConfs, got.ia.States, got.isExtract)
		}
	}
}

func TestExtractByHand(t *testing.T) {
	plain := impl.Ia{Ins: []int{0, 2}, Outs: []int{1, 3}, Hids: []int{5}}
	of := func(states int, steps ...[3]int) impl.Ia {
		return withSteps(changed(plain, func(a *impl.Ia) { a.States = states }), steps...)
	}
	counted := impl.Ia{Ins: []int{0}, Outs: []int{1}}
	tests := []struct {
		name string
		c    impl.Chart
		want impl.Ia
	}{
		{"no moves, no actions", impl.Chart{Places: 3, Init: 2, Tops: []int{2}}, impl.Ia{States: 1}},
		{"no moves, but actions", plainChart(3, 2), of(1)},
		{"vendor", vendor(), vendorIa()},
		{"tallier", tallier(2), withSteps(changed(counted, func(a *impl.Ia) { a.States = 3 }), [3]int{0, 0, 1}, [3]int{1, 0, 2}, [3]int{1, 1, 0}, [3]int{2, 1, 1})},
		{"tallier with a Top of 0", tallier(0), impl.Ia{States: 1, Ins: []int{0}, Outs: []int{1}}},
		{"actions with which no move goes", plainChart(2, 0, move(0, 1, 1)), of(2, [3]int{0, 1, 1})},
		{"all actions Hids", impl.Chart{Places: 1, Hids: upTo(12), Moves: []impl.Move{move(0, 11, 0), move(0, 0, 0)}}, withSteps(impl.Ia{States: 1, Hids: upTo(12)}, [3]int{0, 0, 0}, [3]int{0, 11, 0})},
		{"steps rise, whatever the order of the moves", plainChart(3, 0, move(2, 3, 0), move(0, 5, 0), move(0, 1, 2), move(0, 1, 1), move(2, 0, 2), move(0, 1, 0), move(1, 2, 2)),
			of(3, [3]int{0, 1, 0}, [3]int{0, 1, 1}, [3]int{0, 1, 2}, [3]int{0, 5, 0}, [3]int{1, 0, 1}, [3]int{1, 3, 0}, [3]int{2, 2, 1})},
		{"states by the place in Confs", plainChart(4, 2, move(2, 1, 3), move(3, 1, 0), move(0, 1, 2)), of(3, [3]int{0, 1, 1}, [3]int{1, 1, 2}, [3]int{2, 1, 0})},
		{"places that can't be come to", plainChart(4, 1, move(1, 1, 3), move(0, 1, 1), move(2, 1, 0)), of(2, [3]int{0, 1, 1})},
		{"twice the same move", plainChart(2, 0, move(0, 0, 1), move(0, 0, 1)), of(2, [3]int{0, 0, 1})},
		{"two moves with an input to the same", rechart(plainChart(2, 0, move(0, 0, 1), setting(move(0, 0, 1), 0, 0), asking(move(0, 0, 1), impl.GdEq, 0, 0)), func(c *impl.Chart) { c.Tops = []int{2} }), of(2, [3]int{0, 0, 1})},
		{"two moves with an output to the same", rechart(plainChart(2, 0, move(0, 1, 1), setting(move(0, 1, 1), 0, 0), asking(move(0, 1, 1), impl.GdLess, 0, 1)), func(c *impl.Chart) { c.Tops = []int{2} }), of(2, [3]int{0, 1, 1})},
		{"two actions to the same", plainChart(2, 0, move(0, 3, 1), move(0, 1, 1), move(0, 0, 1), move(0, 2, 1)), of(2, [3]int{0, 0, 1}, [3]int{0, 1, 1}, [3]int{0, 2, 1}, [3]int{0, 3, 1})},
		{"one output to two states", plainChart(3, 0, move(0, 1, 1), move(0, 1, 2)), of(3, [3]int{0, 1, 1}, [3]int{0, 1, 2})},
		{"one output to two values", rechart(tallier(1), func(c *impl.Chart) { c.Moves = []impl.Move{setting(move(0, 1, 0), 0, 1), move(0, 1, 0)} }),
			withSteps(changed(counted, func(a *impl.Ia) { a.States = 2 }), [3]int{0, 1, 0}, [3]int{0, 1, 1}, [3]int{1, 1, 1})},
		{"one hidden action to two states", plainChart(3, 0, move(0, 5, 1), move(0, 5, 2)), of(3, [3]int{0, 5, 1}, [3]int{0, 5, 2})},
		{"one input to two states", plainChart(3, 0, move(0, 0, 1), move(0, 0, 2)), impl.Ia{}},
		{"one input to two states, late", plainChart(4, 0, move(0, 1, 1), move(1, 1, 2), move(2, 2, 3), move(2, 2, 0)), impl.Ia{}},
		{"one input on, or nowhere", plainChart(2, 0, move(0, 0, 1), move(0, 0, 0)), impl.Ia{}},
		{"one input to two values", rechart(tallier(2), func(c *impl.Chart) { c.Moves = append(c.Moves, move(0, 0, 0)) }), impl.Ia{}},
		{"one input to two states, of which one is not come to", plainChart(3, 0, move(0, 0, 1), move(2, 0, 1), move(2, 0, 0)), of(2, [3]int{0, 0, 1})},
		{"one input to two states, of places that differ", plainChart(3, 0, move(0, 0, 1), move(1, 0, 2)), of(3, [3]int{0, 0, 1}, [3]int{1, 0, 2})},
		{"one input to two values, where Guards tell which", rechart(tallier(1), func(c *impl.Chart) { c.Moves = append(c.Moves, asking(move(0, 0, 0), impl.GdEq, 0, 1)) }),
			withSteps(changed(counted, func(a *impl.Ia) { a.States = 2 }), [3]int{0, 0, 1}, [3]int{1, 0, 1}, [3]int{1, 1, 0})},
		{"one input to two values, where Guards meet", rechart(tallier(1), func(c *impl.Chart) { c.Moves = append(c.Moves, asking(move(0, 0, 0), impl.GdEq, 0, 0)) }), impl.Ia{}},
		{"one input to two values, where the Top tells which", rechart(tallier(4), func(c *impl.Chart) { c.Moves[0].By, c.Moves[1] = 4, setting(move(0, 0, 0), 0, -4) }),
			withSteps(changed(counted, func(a *impl.Ia) { a.States = 2 }), [3]int{0, 0, 1}, [3]int{1, 0, 0})},
		{"a move that is never made", withMoves(vendor(), asking(move(1, 0, 0), impl.GdMore, 0, 4), asking(move(2, 4, 0), impl.GdLess, 0, 0)), vendorIa()},
	}
	for _, x := range tests {
		if got, ok := impl.Extract(x.c); ok != (x.want.States > 0) || !sameIa(got, x.want) {
			t.Errorf("%s: %+v, %v, want %+v", x.name, got, ok, x.want)
		}
		checkFires(t, x.c)
	}
}

// busy has 25 Confs and 390 steps: both variables count up, with ten actions it stays, with five of these it counts down, too.
func busy(more ...impl.Move) impl.Chart {
	c := impl.Chart{Places: 1, Tops: []int{4, 4}, Outs: upTo(11), Hids: []int{11}, Moves: []impl.Move{setting(move(0, 0, 0), 0, 1), setting(move(0, 1, 0), 1, 1)}}
	for act := 2; act < 12; act++ {
		c.Moves = append(c.Moves, move(0, act, 0))
	}
	for act := 2; act < 7; act++ {
		c.Moves = append(c.Moves, setting(move(0, act, 0), 0, -1))
	}
	return withMoves(c, more...)
}

func TestExtractStepsAtTheLimit(t *testing.T) {
	// few fires from 5 - by Confs alone, those in which the first variable is 4.
	few := func(act int, by int) impl.Move { return setting(asking(move(0, act, 0), impl.GdEq, 0, 4), 1, by) }
	most := []impl.Move{few(9, 1), few(9, 2), few(9, 3), few(9, 4)}
	tests := []struct {
		name  string
		c     impl.Chart
		steps int
	}{
		{"390", busy(), 390},
		{"399", busy(most[:3]...), 399},
		{"400", busy(most...), 400},
		{"400, the moves the other way round", rechart(busy(most...), func(c *impl.Chart) { slices.Reverse(c.Moves) }), 400},
		{"400, of moves that stand there twice", busy(slices.Concat(most, busy().Moves[5:12], most[2:])...), 400},
		{"400, and moves that are never made", busy(slices.Concat(most, []impl.Move{asking(move(0, 7, 0), impl.GdMore, 1, 4)})...), 400},
		{"401, the last by an output", busy(slices.Concat(most, []impl.Move{few(10, 4)})...), 401},
		{"401, the last hidden", busy(slices.Concat(most, []impl.Move{few(11, -4)})...), 401},
		{"401, the first", busy(slices.Concat([]impl.Move{few(2, 4)}, most)...), 401},
		{"415", busy(move(0, 0, 0)), 415},
	}
	for _, x := range tests {
		w := wantedDoings(x.c)
		made := map[[3]int]bool{}
		for from, row := range w.fired {
			for m, to := range row {
				if to >= 0 {
					made[[3]int{from, x.c.Moves[m].Act, to}] = true
				}
			}
		}
		got := checkFires(t, x.c)
		if len(made) != x.steps || len(got.confs) != 25 || got.isExtract != (x.steps <= 400) || got.isExtract && len(got.ia.Steps) != x.steps {
			t.Errorf("%s: %d, %v, %d steps of %d", x.name, len(got.confs), got.isExtract, len(got.ia.Steps), len(made))
		}
	}
}

// mayBe gives the places in all of what a chart may be in behind a trace, hidden moves made or not.
func (w doings) mayBe(trace []int) []int {
	may := make([]bool, len(w.all))
	may[w.placeOf(w.wantedFirst())] = true
	along := func(into []bool, goes func(act int) bool) {
		for from := range w.all {
			for m, to := range w.fired[from] {
				if may[from] && to >= 0 && goes(w.c.Moves[m].Act) {
					into[to] = true
				}
			}
		}
	}
	unseen := func() {
		for range w.all {
			along(may, func(act int) bool { return occurs(w.c.Hids, act) })
		}
	}
	unseen()
	for _, act := range trace {
		next := make([]bool, len(w.all))
		along(next, func(a int) bool { return a == act })
		may = next
		unseen()
	}
	var places []int
	for i, is := range may {
		if is {
			places = append(places, i)
		}
	}
	return places
}

// checkTraces is promise 10 along traces: a chart may be where its automaton may be.
func checkTraces(t *testing.T, c impl.Chart) {
	t.Helper()
	a, ok := impl.Extract(c)
	if !ok {
		return
	}
	w := wantedDoings(c)
	list := w.found()
	for _, trace := range tracesOf(a, 6) {
		var got []int
		for _, s := range impl.Runs(a, []int{0}, trace) {
			got = append(got, list[s])
		}
		if want := w.mayBe(trace); !slices.Equal(sorted(got), want) {
			t.Fatalf("behind %v the automaton %+v of %+v may be in %v, want %v", trace, a, c, got, want)
		}
	}
}

// checkWalk is promise 10 move by move: some moves that are drawn, and then some steps that are drawn.
func checkWalk(t *testing.T, d *draws, c impl.Chart) {
	t.Helper()
	a, ok := impl.Extract(c)
	confs, _ := impl.Confs(c)
	if !ok || len(c.Moves) == 0 {
		return
	}
	x, at := impl.First(c), 0
	for range 30 {
		m := d.below(len(c.Moves))
		y, fires := impl.Fire(c, x, m)
		if !fires {
			continue
		}
		to := slices.IndexFunc(confs, func(z impl.Conf) bool { return sameConf(y, z) })
		if !slices.Contains(a.Steps, impl.Step{From: at, Act: c.Moves[m].Act, To: to}) {
			t.Fatalf("%+v goes from %+v to %+v, but its automaton %+v does not", c, x, y, a)
		}
		x, at = y, to
	}
	var picks []int
	for range 30 {
		picks = append(picks, d.below(100))
	}
	x = impl.First(c)
	for _, step := range impl.Play(a, picks) {
		made := false
		for m := range c.Moves {
			y, fires := impl.Fire(c, x, m)
			made = made || fires && c.Moves[m].Act == step.Act && sameConf(y, confs[step.To])
		}
		if !made || !sameConf(x, confs[step.From]) {
			t.Fatalf("the automaton %+v makes %+v, but %+v makes no such move from %+v", a, step, c, x)
		}
		x = confs[step.To]
	}
}

func TestPromiseOfVendor(t *testing.T) {
	d := draws(120)
	for range 20 {
		checkWalk(t, &d, vendor())
		checkWalk(t, &d, full(5, 3, 1))
		checkWalk(t, &d, busy())
	}
	checkTraces(t, vendor())
	checkTraces(t, full(5, 3, 1))
	checkTraces(t, tallier(4))
	a, _ := impl.Extract(vendor())
	tests := []struct {
		trace []int
		want  []int
	}{
		{nil, []int{0}},
		{[]int{0}, []int{1}},
		{[]int{0, 0, 0}, nil},
		{[]int{4}, nil},
		{[]int{0, 4}, []int{3, 5}},
		{[]int{0, 4, 0}, []int{5}},
		{[]int{0, 4, 0, 6}, []int{1}},
		{[]int{0, 4, 1}, []int{0}},
		{[]int{0, 0, 4}, []int{4}},
		{[]int{0, 0, 4, 1}, []int{1}},
	}
	for _, x := range tests {
		if got := impl.Runs(a, []int{0}, x.trace); !slices.Equal(got, x.want) {
			t.Errorf("behind %v: %v", x.trace, got)
		}
	}
}

// smallMoves are between two places, with an action of each kind, few Guards and small steps.
func smallMoves() []impl.Move {
	var all []impl.Move
	for i := range 12 {
		plain := move(i&1, i>>2, i>>1&1)
		for _, asked := range []impl.Move{plain, asking(plain, impl.GdEq, 0, 0), asking(plain, impl.GdEq, 0, 1), asking(plain, impl.GdLess, 0, 1), asking(plain, impl.GdMore, 0, 0)} {
			all = append(all, asked, setting(asked, 0, 1), setting(asked, 0, -1))
		}
	}
	return all
}

// All charts of two places and two of the small moves.
func TestAllSmallCharts(t *testing.T) {
	count := map[string]int{}
	for i, x := range smallMoves() {
		for j, y := range smallMoves() {
			for _, tops := range [][]int{{0}, {1}, {2}} {
				c := impl.Chart{Places: 2, Tops: tops, Ins: []int{0}, Outs: []int{1}, Hids: []int{2}, Moves: []impl.Move{x, y}}
				got := checkChart(t, c)
				count[fmt.Sprint(got.isExtract, " ", len(got.confs))]++
				if (i+j)%5 == 0 {
					checkTraces(t, c)
				}
			}
		}
	}
	for _, kind := range []string{"true 1", "true 2", "true 3", "true 4", "true 5", "true 6", "false 2", "false 3", "false 4"} {
		if count[kind] < 20 {
			t.Fatalf("%v: too few of %q to tell", count, kind)
		}
	}
}

// drawnMove is right in c, if c has any action.
func drawnMove(d *draws, c impl.Chart) impl.Move {
	acts := slices.Concat(c.Ins, c.Outs, c.Hids)
	m := move(d.below(c.Places), acts[d.below(len(acts))], d.below(c.Places))
	if len(c.Tops) > 0 && d.below(2) == 0 {
		variable := d.below(len(c.Tops))
		m = asking(m, 1+d.below(3), variable, d.below(c.Tops[variable]+1))
	}
	if len(c.Tops) > 0 && d.below(3) > 0 {
		m = setting(m, d.below(len(c.Tops)), []int{-4, -2, -1, -1, 0, 1, 1, 1, 2, 3}[d.below(10)])
	}
	return m
}

// drawnChart is ChartOk; most of its actions are Outs, of which one may lead anywhere.
func drawnChart(d *draws, places int, tops []int, count int) impl.Chart {
	c := impl.Chart{Places: places, Init: d.below(places), Tops: tops}
	for x := range 12 {
		switch d.below(5) {
		case 0:
			c.Ins = append(c.Ins, x)
		case 1, 2:
			c.Outs = append(c.Outs, x)
		case 3:
			c.Hids = append(c.Hids, x)
		}
	}
	for range count {
		if len(c.Ins)+len(c.Outs)+len(c.Hids) > 0 {
			c.Moves = append(c.Moves, drawnMove(d, c))
		}
	}
	return c
}

func drawnTops(d *draws) []int {
	var tops []int
	for range d.below(3) {
		tops = append(tops, []int{0, 1, 1, 2, 2, 3, 4}[d.below(7)])
	}
	return tops
}

func TestDrawnCharts(t *testing.T) {
	d := draws(121)
	count := map[string]int{}
	for i := range 3000 {
		c := drawnChart(&d, 1+d.below(6), drawnTops(&d), []int{4, 8, 15, 30}[i%4])
		if i%15 == 0 {
			c = drawnChart(&d, 3+d.below(4), []int{4, 4 - d.below(3)}, 30)
		}
		if !wantedChartOk(c) {
			t.Fatalf("drawn, but not ChartOk: %+v", c)
		}
		got := checkChart(t, c)
		checkWalk(t, &d, c)
		switch {
		case !got.isConfs:
			count["too many"]++
		case !got.isExtract:
			count["not IaOk"]++
		case len(got.confs) > 10:
			count["more than ten"]++
			checkTraces(t, c)
		default:
			count["some"]++
			checkTraces(t, c)
		}
		if i%20 == 0 {
			checkFires(t, c)
		}
	}
	for _, kind := range []string{"too many", "not IaOk", "more than ten", "some"} {
		if count[kind] < 100 {
			t.Fatalf("%v: too few of %q to tell", count, kind)
		}
	}
}

// spoilChart changes one number of a chart, or one place of a list.
func spoilChart(d *draws, c *impl.Chart) {
	number := []int{math.MinInt, -5, -4, -2, -1, 0, 1, 2, 3, 4, 5, 6, 7, 11, 12, math.MaxInt}[d.below(16)]
	lists := []*[]int{&c.Tops, &c.Ins, &c.Outs, &c.Hids}
	list := lists[d.below(4)]
	switch kind := d.below(8); {
	case kind == 0:
		c.Places = number
	case kind == 1:
		c.Init = number
	case kind == 2:
		*list = append(slices.Clone(*list), number)
	case kind == 3 && len(*list) > 0:
		*list = slices.Clone(*list)
		(*list)[d.below(len(*list))] = number
	case kind == 4 && len(*list) > 0:
		*list = (*list)[1:]
	case kind > 4 && len(c.Moves) > 0:
		m := &c.Moves[d.below(len(c.Moves))]
		*[]*int{&m.From, &m.Act, &m.To, &m.Guard, &m.Var, &m.Than, &m.Set, &m.By}[d.below(8)] = number
	}
}

func TestSpoiltCharts(t *testing.T) {
	d := draws(122)
	wrong := 0
	for range 6000 {
		c := drawnChart(&d, 1+d.below(6), drawnTops(&d), 1+d.below(10))
		spoilChart(&d, &c)
		if !wantedChartOk(c) {
			wrong++
		}
		checkFires(t, c)
	}
	if wrong < 2000 || wrong > 4800 {
		t.Fatalf("%d of 6000 are wrong: too few of one kind to tell", wrong)
	}
}

// chartOf has a place for each state of a, and a move for each step.
func chartOf(a impl.Ia) impl.Chart {
	c := impl.Chart{Places: a.States, Init: a.Init, Ins: a.Ins, Outs: a.Outs, Hids: a.Hids}
	for _, x := range a.Steps {
		c.Moves = append(c.Moves, move(x.From, x.Act, x.To))
	}
	return c
}

// A chart without variables is an automaton: what may be come to of it is extracted again.
func TestAutomataAsCharts(t *testing.T) {
	d := draws(123)
	charts := 0
	for range 600 {
		a := drawnIa(&d, 1+d.below(6), 1+d.below(30))
		got, ok := impl.Extract(chartOf(a))
		confs, _ := impl.Confs(chartOf(a))
		if !ok || got.States != impl.Trimmed(a).States || len(got.Steps) != len(impl.Trimmed(a).Steps) {
			t.Fatalf("of %+v: %+v, %v", a, got, ok)
		}
		checkSameBut(t, got, a)
		for _, x := range got.Steps {
			if !slices.Contains(a.Steps, impl.Step{From: confs[x.From].Place, Act: x.Act, To: confs[x.To].Place}) {
				t.Fatalf("of %+v: %+v makes %+v", a, got, x)
			}
		}
		if again, ok := impl.Extract(chartOf(got)); !ok || !slices.Equal(sizesOf(again), sizesOf(got)) {
			t.Fatalf("of %+v: %+v, and of this one %+v, %v", a, got, again, ok)
		}
		charts++
	}
	for _, a := range []impl.Ia{client(), server(), store(), row(6), whisperer(), turner(6, 5)} {
		if got, ok := impl.Extract(chartOf(a)); ok {
			checkSameBut(t, got, a)
			charts++
		}
	}
	if charts < 604 {
		t.Fatalf("%d: too few to tell", charts)
	}
}

// The order of the moves, a move that stands there twice, and the names of places and variables change nothing but numbers of states.
func TestChartsSaidOtherwise(t *testing.T) {
	d := draws(124)
	count := 0
	for i := range 1000 {
		c := drawnChart(&d, 1+d.below(5), drawnTops(&d), 3+d.below(8))
		was, ok := impl.Extract(c)
		other := rechart(c, func(c *impl.Chart) {
			switch i % 4 {
			case 0:
				slices.Reverse(c.Moves)
			case 1:
				c.Moves = slices.Concat(c.Moves, c.Moves)
			case 2:
				c.Init = c.Places - 1 - c.Init
				for k, m := range c.Moves {
					c.Moves[k].From, c.Moves[k].To = c.Places-1-m.From, c.Places-1-m.To
				}
			case 3:
				slices.Reverse(c.Tops)
				for k, m := range c.Moves {
					if m.Guard != impl.GdNone {
						c.Moves[k].Var = len(c.Tops) - 1 - m.Var
					}
					if m.Set >= 0 {
						c.Moves[k].Set = len(c.Tops) - 1 - m.Set
					}
				}
			}
		})
		got, is := impl.Extract(other)
		if ok != is || !slices.Equal(sizesOf(was), sizesOf(got)) {
			t.Fatalf("Extract(%+v) = %+v, %v, but Extract(%+v) = %+v, %v", c, was, ok, other, got, is)
		}
		if i%4 > 0 && !sameIa(was, got) {
			t.Fatalf("Extract(%+v) = %+v, but Extract(%+v) = %+v", c, was, other, got)
		}
		if ok {
			checkSameBut(t, was, got)
			if was.States > 3 {
				count++
			}
		}
	}
	if count < 100 {
		t.Fatalf("%d of more than three states: too few to tell", count)
	}
}

// A variable is as good as places: behind each chart of one variable stands one that has a place for each Conf.
func TestVariablesAsPlaces(t *testing.T) {
	d := draws(125)
	count := 0
	for range 600 {
		c := drawnChart(&d, 1+d.below(2), []int{1 + d.below(2)}, 2+d.below(6))
		a, ok := impl.Extract(c)
		if !ok {
			continue
		}
		values := c.Tops[0] + 1
		other := impl.Chart{Places: c.Places * values, Init: c.Init * values, Ins: c.Ins, Outs: c.Outs, Hids: c.Hids}
		for _, m := range c.Moves {
			for v := range values {
				for to := range values {
					if leads(conf(m.From, v), m, conf(m.To, to)) {
						other.Moves = append(other.Moves, move(m.From*values+v, m.Act, m.To*values+to))
					}
				}
			}
		}
		got, is := impl.Extract(other)
		if !is || !sameIa(got, a) {
			t.Fatalf("Extract(%+v) = %+v, but Extract(%+v) = %+v, %v", c, a, other, got, is)
		}
		if a.States > 2 {
			count++
		}
	}
	if count < 100 {
		t.Fatalf("%d of more than two states: too few to tell", count)
	}
}

var sentinelMove = impl.Move{From: sentinel, Act: sentinel, To: sentinel, Guard: sentinel, Var: sentinel, Than: sentinel, Set: sentinel, By: sentinel}

func roomyChart(c impl.Chart) impl.Chart {
	c.Tops, c.Ins, c.Outs, c.Hids = roomy(c.Tops), roomy(c.Ins), roomy(c.Outs), roomy(c.Hids)
	c.Moves = roomyOf(c.Moves, sentinelMove)
	return c
}

func checkChartUntouched(t *testing.T, what string, c impl.Chart, was impl.Chart) {
	t.Helper()
	checkUntouched(t, what, c.Tops, was.Tops)
	checkUntouched(t, what, c.Ins, was.Ins)
	checkUntouched(t, what, c.Outs, was.Outs)
	checkUntouched(t, what, c.Hids, was.Hids)
	checkUntouchedOf(t, what, c.Moves, was.Moves, sentinelMove)
}

func scribbleChart(c impl.Chart) {
	scribble(c.Tops)
	scribble(c.Ins)
	scribble(c.Outs)
	scribble(c.Hids)
	scribbleOf(c.Moves, move(overwritten, overwritten, overwritten))
}

// chartsForMemory has one of each outcome: not ChartOk, too many Confs or steps, not IaOk, no variables, some, no moves, some.
func chartsForMemory() map[string]impl.Chart {
	all := map[string]impl.Chart{
		"nothing": {}, "vendor": vendor(), "tallier": tallier(3), "one place": {Places: 1}, "150": full(6, 4, 4), "40": full(5, 3, 1),
		"busy": busy(), "too busy": busy(move(0, 0, 0)), "not right": withMoves(vendor(), move(3, 0, 0)), "without moves": {Places: 2, Tops: []int{1, 2}, Ins: []int{3}, Outs: []int{4}, Hids: []int{5}},
		"one input to two": plainChart(3, 0, move(0, 0, 1), move(0, 0, 2)), "without variables": plainChart(3, 2, move(2, 0, 1), move(1, 1, 2)),
		"three Tops": {Places: 1, Tops: []int{1, 1, 1}}, "Tops of 0": {Places: 2, Tops: []int{0, 0}, Hids: []int{1}, Moves: []impl.Move{move(0, 1, 1)}},
	}
	d := draws(126)
	for i := range 20 {
		all[fmt.Sprint("drawn ", i)] = drawnChart(&d, 1+d.below(6), drawnTops(&d), 3+d.below(10))
	}
	return all
}

// confsForMemory are asked of every chart: most are not ConfOk of some.
func confsForMemory() []impl.Conf {
	return append(vendorConfs(), conf(0), conf(2), conf(0, 0), conf(0, 3), conf(1, 1), conf(0, 0, 0), conf(4, 3, 1), conf(0, 9, 9, 9))
}

func TestChartsLeaveArgumentsAsTheyAre(t *testing.T) {
	for name, was := range chartsForMemory() {
		c := roomyChart(was)
		got := doneBy(c)
		checkChartUntouched(t, name, c, was)
		got.scribble()
		checkChartUntouched(t, name+", answers written over", c, was)
		for _, wasConf := range confsForMemory() {
			x := impl.Conf{Place: wasConf.Place, Vars: roomy(wasConf.Vars)}
			impl.ConfOk(c, x)
			for m := range c.Moves {
				y, _ := impl.Fire(c, x, m)
				checkUntouched(t, name+", Fire", x.Vars, wasConf.Vars)
				scribble(y.Vars)
				checkUntouched(t, name+", Fire, the answer written over", x.Vars, wasConf.Vars)
			}
			checkChartUntouched(t, name+", Fire", c, was)
		}
	}
}

func TestChartsShareNoMemoryWithArguments(t *testing.T) {
	for name, was := range chartsForMemory() {
		c := roomyChart(was)
		got := doneBy(c)
		want := got.clone()
		scribbleChart(c)
		if !got.same(want) {
			t.Fatalf("%s: an answer shares memory with an argument: %+v, want %+v", name, got, want)
		}
		for _, wasConf := range confsForMemory() {
			for m := range was.Moves {
				c, x := roomyChart(was), impl.Conf{Place: wasConf.Place, Vars: roomy(wasConf.Vars)}
				y, _ := impl.Fire(c, x, m)
				want := slices.Clone(y.Vars)
				scribble(x.Vars)
				scribbleChart(c)
				if !slices.Equal(y.Vars, want) {
					t.Fatalf("%s: Fire shares memory with an argument: %v, want %v", name, y.Vars, want)
				}
			}
		}
	}
}

func TestListsOfChartsShareNoMemory(t *testing.T) {
	for name, c := range chartsForMemory() {
		checkListsApart(t, name+", Extract", func() impl.Ia {
			a, _ := impl.Extract(c)
			return a
		})
		want, _ := impl.Confs(c)
		for i := range want {
			got, _ := impl.Confs(c)
			scribble(got[i].Vars)
			for k, x := range got {
				if k != i && !sameConf(x, want[k]) {
					t.Fatalf("%s: the Vars of %d and of %d share memory: %+v, want %+v", name, i, k, x, want[k])
				}
			}
		}
	}
}

// No call keeps anything: an answer that is written over is not told again.
func TestNothingOfChartsIsKeptForAnother(t *testing.T) {
	for name, c := range chartsForMemory() {
		w := wantedDoings(c)
		want := w.wantedDone().clone()
		for range 3 {
			got := doneBy(c)
			if !got.same(want) {
				t.Fatalf("%s: %+v, want %+v", name, got, want)
			}
			got.scribble()
			for _, x := range want.confs {
				for m := range c.Moves {
					y, ok := impl.Fire(c, x, m)
					if z, is := w.wantedFire(x, m); ok != is || !sameConf(y, z) {
						t.Fatalf("%s: Fire of %+v and %d: %+v, %v, want %+v, %v", name, x, m, y, ok, z, is)
					}
					scribble(y.Vars)
				}
			}
		}
	}
}

// The lists of an argument may lie in one piece of memory, and the Vars be one of them.
func TestChartsOfListsInOnePiece(t *testing.T) {
	was := []int{2, 1, 0, 4, 1, 6, 7}
	piece := slices.Clone(was)
	c := vendor()
	c.Tops, c.Ins, c.Outs, c.Hids = piece[:2], piece[2:4], piece[4:6], piece[6:]
	got := checkFires(t, c)
	if !sameConfs(got.confs, vendorConfs()) || !sameIa(got.ia, vendorIa()) {
		t.Fatalf("%+v", got)
	}
	if y, ok := impl.Fire(c, impl.Conf{Place: 2, Vars: c.Tops}, 2); ok || !sameConf(y, impl.Conf{}) {
		t.Fatal("its own Tops as Vars, asked for less", y, ok)
	}
	y, ok := impl.Fire(c, impl.Conf{Place: 0, Vars: c.Tops}, 4)
	if !ok || !sameConf(y, conf(1, 2, 0)) {
		t.Fatal("its own Tops as Vars", y, ok)
	}
	scribble(y.Vars)
	got.scribble()
	if !slices.Equal(piece, was) {
		t.Fatal("the argument was written into", piece)
	}
	one := []int{1}
	same := impl.Chart{Places: 2, Tops: one, Outs: one, Ins: one[:0], Hids: one[1:], Moves: []impl.Move{setting(move(0, 1, 1), 0, 1)}}
	if got := checkFires(t, same); !sameConfs(got.confs, []impl.Conf{conf(0, 0), conf(1, 1)}) || one[0] != 1 {
		t.Fatalf("%+v, %v", got, one)
	}
}

func TestSpareRoomOfChartsIsNotRead(t *testing.T) {
	c := vendor()
	c.Tops, c.Ins, c.Outs, c.Hids, c.Moves = c.Tops[:1], c.Ins[:1], c.Outs[:0], c.Hids[:0], c.Moves[:1]
	got := checkFires(t, c)
	want := withSteps(impl.Ia{States: 3, Ins: []int{0}}, [3]int{0, 0, 1}, [3]int{1, 0, 2})
	if !got.isExtract || !sameIa(got.ia, want) || !sameConfs(got.confs, []impl.Conf{conf(1, 0), conf(1, 1), conf(1, 2)}) {
		t.Fatalf("%+v", got)
	}
	c.Ins = c.Ins[:0]
	if impl.ChartOk(c) {
		t.Fatal("an action that stands in the spare room alone")
	}
	vars := []int{2, 1, 5}
	for n := range len(vars) + 1 {
		if got := impl.ConfOk(vendor(), impl.Conf{Vars: vars[:n]}); got != (n == 2) {
			t.Fatal("Vars", vars[:n], got)
		}
	}
	if y, ok := impl.Fire(vendor(), impl.Conf{Vars: vars[:2]}, 5); !ok || len(y.Vars) != 2 {
		t.Fatal(y, ok)
	}
	if y, ok := impl.Fire(vendor(), impl.Conf{Vars: vars[:1]}, 5); ok {
		t.Fatal(y)
	}
	if _, ok := impl.Fire(rechart(vendor(), func(c *impl.Chart) { c.Moves = c.Moves[:5] }), impl.Conf{Vars: vars[:2]}, 5); ok {
		t.Fatal("a move that stands in the spare room alone")
	}
}
