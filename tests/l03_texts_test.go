package tests

import (
	"fmt"
	"regexp"
	"slices"
	"strconv"
	"strings"
	"testing"

	"loop.example/g00645/impl"
)

// wantedText is for an automaton of any kind, so that there are right lines of wrong automata, too.
func wantedText(a impl.Ia) string {
	lines := []string{
		fmt.Sprintln("states", a.States, a.Init),
		wantedSetLine("ins", a.Ins), wantedSetLine("outs", a.Outs), wantedSetLine("hids", a.Hids),
	}
	for _, x := range a.Steps {
		lines = append(lines, fmt.Sprintf("step %d %d %d\n", x.From, x.Act, x.To))
	}
	return strings.Join(lines, "")
}

func wantedSetLine(word string, set []int) string {
	return strings.TrimSpace(word+" "+strings.Trim(fmt.Sprint(set), "[]")) + "\n"
}

const numberForm = ` (?:0|[1-9][0-9]{0,5})`

// lineForms are those of the first four lines and of all behind them.
var lineForms = [5]*regexp.Regexp{
	regexp.MustCompile(`\Astates(?:` + numberForm + `){2}\n\z`),
	regexp.MustCompile(`\Ains(?:` + numberForm + `)*\n\z`),
	regexp.MustCompile(`\Aouts(?:` + numberForm + `)*\n\z`),
	regexp.MustCompile(`\Ahids(?:` + numberForm + `)*\n\z`),
	regexp.MustCompile(`\Astep(?:` + numberForm + `){3}\n\z`),
}

// linesOf gives the lines with what ends them; the last one may be not ended.
func linesOf(s string) []string {
	lines := strings.SplitAfter(s, "\n")
	if lines[len(lines)-1] == "" {
		lines = lines[:len(lines)-1]
	}
	return lines
}

func wantedNumbers(line string) []int {
	var numbers []int
	for _, word := range strings.Fields(line)[1:] {
		n, err := strconv.Atoi(word)
		if err != nil {
			panic(err)
		}
		numbers = append(numbers, n)
	}
	return numbers
}

// wantedRead is the document's sentence on IaRead, with no code of the program.
func wantedRead(s string) (impl.Ia, int) {
	if len(s) > 8000 {
		return impl.Ia{}, -1
	}
	lines := linesOf(s)
	for i, line := range lines {
		if !lineForms[min(i, 4)].MatchString(line) {
			return impl.Ia{}, i + 1
		}
	}
	if len(lines) < 4 {
		return impl.Ia{}, len(lines) + 1
	}
	sizes := wantedNumbers(lines[0])
	a := impl.Ia{
		States: sizes[0], Init: sizes[1],
		Ins: wantedNumbers(lines[1]), Outs: wantedNumbers(lines[2]), Hids: wantedNumbers(lines[3]),
	}
	for _, line := range lines[4:] {
		x := wantedNumbers(line)
		a.Steps = append(a.Steps, impl.Step{From: x[0], Act: x[1], To: x[2]})
	}
	if !wantedOk(a) {
		return impl.Ia{}, -1
	}
	return a, 0
}

// checkRead gives the number, so that a test may say what it expects by hand as well.
func checkRead(t *testing.T, s string) int {
	t.Helper()
	got, number := impl.IaRead(s)
	want, wantNumber := wantedRead(s)
	if number != wantNumber || !sameIa(got, want) {
		t.Fatalf("IaRead(%.300q) = %+v, %d, want %+v, %d", s, got, number, want, wantNumber)
	}
	if number != 0 && !sameIa(got, impl.Ia{}) {
		t.Fatalf("IaRead(%.300q) = %+v beside %d", s, got, number)
	}
	if number == 0 && impl.IaText(got) != s {
		t.Fatalf("IaText of what IaRead(%.300q) reads is %.300q", s, impl.IaText(got))
	}
	return number
}

// checkRoundTrip is promise 3 of one IaOk automaton.
func checkRoundTrip(t *testing.T, a impl.Ia) {
	t.Helper()
	s := impl.IaText(a)
	if s != wantedText(a) {
		t.Fatalf("IaText(%+v) = %.300q, want %.300q", a, s, wantedText(a))
	}
	got, number := impl.IaRead(s)
	if number != 0 || !sameIa(got, a) {
		t.Fatalf("%+v is read from its text as %+v, %d", a, got, number)
	}
	checkRead(t, s)
}

type readCase struct {
	text string
	want int
}

func checkReadCases(t *testing.T, cases []readCase) {
	t.Helper()
	for _, x := range cases {
		if got := checkRead(t, x.text); got != x.want {
			t.Errorf("IaRead(%.300q) tells %d, want %d", x.text, got, x.want)
		}
	}
}

const talkerText = "states 6 1\nins 0 5\nouts 1 11\nhids 2\n" +
	"step 0 1 0\nstep 0 1 3\nstep 0 1 5\n" +
	"step 1 0 0\nstep 1 1 1\nstep 1 2 0\nstep 1 2 3\nstep 1 11 1\n" +
	"step 2 0 4\nstep 2 5 0\nstep 3 5 1\nstep 4 2 2\nstep 4 11 5\n"

func TestTextLimit(t *testing.T) {
	if impl.MaxText != 8000 {
		t.Fatal(impl.MaxText)
	}
}

func TestIaTextByHand(t *testing.T) {
	tests := []struct {
		a    impl.Ia
		want string
	}{
		{impl.Ia{States: 1}, "states 1 0\nins\nouts\nhids\n"},
		{impl.Ia{States: 1, Ins: []int{}, Outs: []int{}, Hids: []int{}, Steps: []impl.Step{}}, "states 1 0\nins\nouts\nhids\n"},
		{impl.Ia{States: 40, Init: 39}, "states 40 39\nins\nouts\nhids\n"},
		{impl.Ia{States: 2, Init: 1, Ins: []int{3}}, "states 2 1\nins 3\nouts\nhids\n"},
		{impl.Ia{States: 2, Outs: []int{0, 10}}, "states 2 0\nins\nouts 0 10\nhids\n"},
		{impl.Ia{States: 2, Hids: []int{0, 1, 11}}, "states 2 0\nins\nouts\nhids 0 1 11\n"},
		{impl.Ia{States: 1, Ins: actionsOf(0xfff)}, "states 1 0\nins 0 1 2 3 4 5 6 7 8 9 10 11\nouts\nhids\n"},
		{impl.Ia{States: 40, Ins: []int{11}, Steps: []impl.Step{{From: 39, Act: 11, To: 38}}}, "states 40 0\nins 11\nouts\nhids\nstep 39 11 38\n"},
		{talker(), talkerText},
	}
	for _, x := range tests {
		if got := impl.IaText(x.a); got != x.want {
			t.Errorf("IaText(%+v) = %.300q, want %.300q", x.a, got, x.want)
		}
		checkRoundTrip(t, x.a)
	}
}

func TestIaTextOf400Steps(t *testing.T) {
	a := crowded(400)
	s := impl.IaText(a)
	if strings.Count(s, "\n") != 404 || !strings.HasPrefix(s, "states 40 0\nins\nouts 6\nhids\nstep 0 6 0\n") || !strings.HasSuffix(s, "\nstep 9 6 39\n") {
		t.Fatal(s)
	}
	checkRoundTrip(t, a)
}

// longest has the most bytes that the text of an automaton may have: all of them may be read.
func longest() impl.Ia {
	a := impl.Ia{States: 40, Init: 39, Outs: actionsOf(0xfff)}
	for i := range 400 {
		a.Steps = append(a.Steps, impl.Step{From: 20 + i/20, Act: 10, To: 20 + i%20})
	}
	return a
}

func TestLongestTextIsRead(t *testing.T) {
	if n := len(impl.IaText(longest())); n != 13+14+26+400*14 {
		t.Fatal(n)
	}
	checkRoundTrip(t, longest())
}

func TestIaTextOfWrongAutomataIsEmpty(t *testing.T) {
	for name, a := range badAutomata() {
		if got := impl.IaText(a); got != "" {
			t.Errorf("%s: %.300q", name, got)
		}
	}
}

// Promise 3, over automata by hand, all small ones and drawn ones.
func TestGoodAutomataAreReadAsTheyWere(t *testing.T) {
	for name, a := range goodAutomata() {
		t.Run(name, func(t *testing.T) { checkRoundTrip(t, a) })
	}
}

func TestAllSmallAutomataAreReadAsTheyWere(t *testing.T) {
	var steps []impl.Step
	for i := range 12 {
		steps = append(steps, impl.Step{From: i / 6, Act: i / 2 % 3, To: i % 2})
	}
	for mask := range 1 << len(steps) {
		a := impl.Ia{States: 2, Init: mask % 2, Ins: []int{0}, Outs: []int{1}, Hids: []int{2}}
		for i, x := range steps {
			if mask>>i&1 == 1 {
				a.Steps = append(a.Steps, x)
			}
		}
		checkTextOfAny(t, a)
	}
}

func TestAllPartingsOfActionsAreReadAsTheyWere(t *testing.T) {
	for code := range 4 * 4 * 4 * 4 * 4 {
		a := impl.Ia{States: 1}
		rest := code
		for _, x := range []int{0, 1, 9, 10, 11} {
			switch rest % 4 {
			case 1:
				a.Ins = append(a.Ins, x)
			case 2:
				a.Outs = append(a.Outs, x)
			case 3:
				a.Hids = append(a.Hids, x)
			}
			rest /= 4
		}
		checkRoundTrip(t, a)
	}
}

func TestDrawnAutomataAreReadAsTheyWere(t *testing.T) {
	d := draws(31)
	for i := range 400 {
		states := 1 + d.below(40)
		checkRoundTrip(t, drawnIa(&d, states, []int{0, states, 2 * states, 400}[i%4]))
	}
}

// checkTextOfAny goes from an automaton that may be wrong to its text, and back from its lines.
func checkTextOfAny(t *testing.T, a impl.Ia) {
	t.Helper()
	if wantedOk(a) {
		checkRoundTrip(t, a)
		return
	}
	if got := impl.IaText(a); got != "" {
		t.Fatalf("IaText(%+v) = %.300q", a, got)
	}
	checkRead(t, wantedText(a))
}

func TestSpoiltAutomataAsTexts(t *testing.T) {
	d := draws(32)
	for range 3000 {
		a := drawnIa(&d, 1+d.below(6), 1+d.below(12))
		spoil(&d, &a)
		checkTextOfAny(t, a)
	}
}

func TestTextsOfFewLines(t *testing.T) {
	checkReadCases(t, []readCase{
		{"", 1},
		{"states 2 0", 1},
		{"states 2 0\n", 2},
		{"states 2 0\nins", 2},
		{"states 2 0\nins 0", 2},
		{"states 2 0\nins\n", 3},
		{"states 2 0\nins\nouts", 3},
		{"states 2 0\nins\nouts\n", 4},
		{"states 2 0\nins\nouts\nhids", 4},
		{"states 2 0\nins\nouts\nhids 0 1", 4},
		{"states 2 0\nins\nouts\nhids\n", 0},
		{"states 2 0\nins\nouts\nhids 0\nstep 0 0 0", 5},
		{"states 2 0\nins\nouts\nhids 0\nstep 0 0 0\n", 0},
		{"states 2 0\nins\nouts\nhids 0\nstep 0 0 0\nstep 0 0 1", 6},
		{"states 2 0\nins\nouts\nhids 0\nstep 0 0 0\nstep 0 0 1\n", 0},
		{"states 2 0\nins\nouts\nhids 0\ns", 5},
		{"states 2 0\nins\nouts\nhids 0\n ", 5},
		// What they say so far is not IaOk; that counts behind all lines alone.
		{"states 0 0\n", 2},
		{"states 2 5\nins 12\nouts 12\n", 4},
		{"states 2 5\nins 12\nouts 12\nhids 12", 4},
		{"states 2 5\nins 12\nouts 12\nhids 12\n", -1},
	})
}

func TestTextsWithLinesAtOtherPlaces(t *testing.T) {
	checkReadCases(t, []readCase{
		{"x\n", 1},
		{"ins\nstates 2 0\nouts\nhids\n", 1},
		{"states 2 0\nouts\nins\nhids\n", 2},
		{"states 2 0\nins\nhids\nouts\n", 3},
		{"states 2 0\nins\nouts\nstep 0 0 0\n", 4},
		{"states 2 0\nstep 0 0 0\nins\nouts\nhids\n", 2},
		{"states 2 0\nstates 2 0\nins\nouts\nhids\n", 2},
		{"states 2 0\nins\nins\nouts\nhids\n", 3},
		{"states 2 0\nins\nouts\nouts\nhids\n", 4},
		{"states 2 0\nins\nouts\nhids\nhids\n", 5},
		{"states 2 0\nins\nouts\nhids 0\nstep 0 0 0\nhids 0\n", 6},
		{"states 2 0\nins\nouts\nhids 0\nstep 0 0 0\nstates 2 0\n", 6},
		{"states 2 0\nins\nouts\nhids 0\nstep 0 0 0\n--\n", 6},
		{"--\n", 1},
	})
}

// wrongLines has for each form lines that have it not, all but for the byte 10 at their end.
func wrongLines() [5][]string {
	wrong := [5][]string{
		{"states", "states 2", "states 2 0 0", "states 2 0 0 0", "state 2 0", "statess 2 0", "ins 2 0", "States 2 0", "states20", "states 2,0"},
		{"in", "inss", "ins1", "ins,1", "Ins", "INS 1", "outs", "ins states", "ins ins", "ins 1 x 2"},
		{"out", "outss", "outs1", "outs,1", "Outs", "OUTS 1", "hids", "outs outs", "outs 1 x 2"},
		{"hid", "hidss", "hids1", "hids,1", "Hids", "HIDS 1", "step", "hids hids", "hids 1 x 2"},
		{"step", "step 0", "step 0 0", "step 0 0 0 0", "step 0 0 0 0 0 0", "steps 0 0 0", "ste 0 0 0", "Step 0 0 0", "step000", "step 0,0,0"},
	}
	for form, words := range []string{"states 2 %s", "ins %s", "outs %s", "hids %s", "step 0 0 %s"} {
		right := strings.Replace(words, "%s", "0", 1)
		wrong[form] = append(wrong[form], "", " ", "  ", "0", "x", "\x00", "é", "\xff",
			" "+right, right+" ", strings.Replace(right, " ", "  ", 1), right+"  ", "\t"+right, right+"\t", right+"\r", "\r"+right,
			strings.Replace(right, " ", "\t", 1), strings.Replace(right, " ", "\u00a0", 1), right+"\x00", right+"\v", strings.Replace(right, " ", "", 1),
			right[1:], "x"+right, right+"x", right+" x")
		for _, number := range []string{"-1", "-0", "+0", "+1", "00", "01", "007", "000000", "1000000", "0999999", "9999999", "99999999999999999999", "18446744073709551616",
			"1.0", "1e3", "0x1", "1_0", "x", "1x", "x1", "", "-", "٣", "½", "1\x002"} {
			wrong[form] = append(wrong[form], strings.Replace(words, "%s", number, 1))
		}
	}
	return wrong
}

func TestLinesWithoutTheFormOfTheirPlace(t *testing.T) {
	right := []string{"states 2 0\n", "ins\n", "outs 3\n", "hids 0\n", "step 0 0 0\n", "step 0 0 1\n", "step 1 0 1\n"}
	if got := checkRead(t, strings.Join(right, "")); got != 0 {
		t.Fatal(got)
	}
	for place := range right {
		for _, line := range wrongLines()[min(place, 4)] {
			head := strings.Join(right[:place], "")
			rest := strings.Join(right[min(place+1, len(right)):], "")
			for _, text := range []string{head + line + "\n" + rest, head + line + "\n"} {
				if got := checkRead(t, text); got != place+1 {
					t.Errorf("IaRead(%.300q) tells %d, want %d", text, got, place+1)
				}
			}
		}
	}
}

func TestEmptyLineAtEachPlace(t *testing.T) {
	lines := linesOf(talkerText)
	for place := range len(lines) + 1 {
		text := strings.Join(slices.Insert(slices.Clone(lines), place, "\n"), "")
		if got := checkRead(t, text); got != place+1 {
			t.Errorf("an empty line at the place %d: %d", place, got)
		}
	}
	checkReadCases(t, []readCase{
		{"\n", 1},
		{"\n\n\n\n", 1},
		{"states 2 0\n\n", 2},
		{"states 2 0\nins\nouts\nhids\n\n", 5},
		{"states 2 0\nins\nouts\nhids\n\n\n", 5},
	})
}

// A number of 999999 is read, so that the line has its form, though no automaton has it.
func TestGreatestNumbers(t *testing.T) {
	tests := []struct {
		place int
		line  string
	}{
		{1, "states %s 0\n"}, {1, "states 2 %s\n"}, {2, "ins %s\n"}, {3, "outs 1 %s\n"}, {4, "hids 0 %s\n"},
		{5, "step %s 0 0\n"}, {5, "step 0 %s 0\n"}, {5, "step 0 0 %s\n"},
	}
	for _, x := range tests {
		lines := []string{"states 2 0\n", "ins 1\n", "outs 2\n", "hids 0\n", "step 0 0 0\n"}
		for number, want := range map[string]int{"999998": -1, "999999": -1, "1000000": x.place, "1000001": x.place} {
			lines[x.place-1] = strings.Replace(x.line, "%s", number, 1)
			checkReadCases(t, []readCase{{strings.Join(lines, ""), want}})
		}
	}
}

func TestFirstWrongLineIsTold(t *testing.T) {
	right := linesOf(talkerText)
	for first := range right {
		for second := first + 1; second < len(right); second++ {
			lines := slices.Clone(right)
			lines[first], lines[second] = "step 1\n", "x\n"
			if got := checkRead(t, strings.Join(lines, "")); got != first+1 {
				t.Fatalf("lines %d and %d are wrong: %d", first+1, second+1, got)
			}
		}
		lines := slices.Clone(right)
		lines[first] = "x\n"
		text := strings.Join(lines, "")
		if got := checkRead(t, text[:len(text)-1]); got != first+1 {
			t.Fatalf("line %d is wrong, the last one not ended: %d", first+1, got)
		}
	}
	checkReadCases(t, []readCase{
		{"states 99 99\nins 5 5\nouts\nhids 7\nstep 1\n", 5},
		{"states 99 99\nx\n", 2},
		{"x\ny\n", 1},
		{"states 2 0\ny", 2},
	})
}

func TestRightLinesOfWrongAutomata(t *testing.T) {
	tested := 0
	for name, a := range badAutomata() {
		text := wantedText(a)
		// A number below 0 or too great makes its line a wrong one; a text of 1600 steps is too long as well.
		if strings.Contains(text, "-") || regexp.MustCompile(`[0-9]{7}`).MatchString(text) {
			continue
		}
		tested++
		if got := checkRead(t, text); got != -1 {
			t.Errorf("%s: %d", name, got)
		}
	}
	if tested < 40 {
		t.Fatalf("only %d of them have right lines", tested)
	}
	checkReadCases(t, []readCase{
		{"states 0 0\nins\nouts\nhids\n", -1},
		{"states 41 0\nins\nouts\nhids\n", -1},
		{"states 40 40\nins\nouts\nhids\n", -1},
		{"states 2 0\nins 1 0\nouts\nhids\n", -1},
		{"states 2 0\nins 12\nouts\nhids\n", -1},
		{"states 2 0\nins 1\nouts 1\nhids\n", -1},
		{"states 2 0\nins\nouts\nhids 0 1 2 3 4 5 6 7 8 9 10 11 12\n", -1},
		{"states 2 0\nins\nouts\nhids\nstep 0 0 0\n", -1},
		{"states 2 0\nins\nouts\nhids 0\nstep 0 0 1\nstep 0 0 0\n", -1},
		{"states 2 0\nins\nouts\nhids 0\nstep 0 0 0\nstep 0 0 0\n", -1},
		{"states 2 0\nins 0\nouts\nhids\nstep 0 0 0\nstep 0 0 1\n", -1},
		{wantedText(crowded(400)), 0},
		{wantedText(crowded(401)), -1},
	})
}

// rightLinesOf has just n bytes: four lines, the fourth with as many numbers as it takes.
func rightLinesOf(n int) string {
	head := "states 2 0\nins\nouts\nhids"
	rest := n - len(head) - 1
	if rest%2 == 1 {
		head, rest = head+" 11", rest-3
	}
	return head + strings.Repeat(" 0", rest/2) + "\n"
}

func TestTextsAtTheLimit(t *testing.T) {
	for n := 7990; n <= 8000; n++ {
		text := rightLinesOf(n)
		if len(text) != n {
			t.Fatal(len(text), n)
		}
		// The lines are right, and what they say is wrong; so -1 alone would not tell that they were read.
		checkReadCases(t, []readCase{
			{text, -1},
			{text[:n-1] + "x", 4},
			{"x" + text[1:], 1},
			{strings.Replace(text, "ins\n", "inx\n", 1), 2},
			{text[:n-3] + "x0\n", 4},
			{text[:n-3] + "\n\n\n", 5},
		})
	}
	for n := 8001; n <= 8010; n++ {
		text := rightLinesOf(n)
		checkReadCases(t, []readCase{
			{text, -1},
			{text[:n-1] + "x", -1},
			{"x" + text[1:], -1},
			{strings.Repeat("\n", n), -1},
			{strings.Repeat("x", n), -1},
		})
	}
	checkReadCases(t, []readCase{
		{strings.Repeat("\n", 8000), 1},
		{strings.Repeat("x", 8000), 1},
		{strings.Repeat(" ", 8000), 1},
		{strings.Repeat("\n", 8001), -1},
		{strings.Repeat("x", 9000), -1},
		{strings.Repeat("x", 1<<20), -1},
		{talkerText + strings.Repeat("x", 8000-len(talkerText)), 18},
		{talkerText + strings.Repeat("x", 8001-len(talkerText)), -1},
		// Bytes count, not signs: é has two of them.
		{strings.Repeat("é", 4000), 1},
		{strings.Repeat("é", 4000) + "x", -1},
	})
}

// There are more lines than an automaton may have steps: the form of each of them counts.
func TestManyLines(t *testing.T) {
	text := "states 1 0\nins\nouts\nhids 0\n" + strings.Repeat("step 0 0 0\n", 700)
	checkReadCases(t, []readCase{
		{text, -1},
		{text + "step 0 0\n", 705},
		{text + "step 0 0 0", 705},
		{text + "\n", 705},
		{text[:len(text)-1], 704},
	})
}

func TestEachBeginningOfAText(t *testing.T) {
	for n := range len(talkerText) {
		text := talkerText[:n]
		ended := strings.Count(text, "\n")
		want := ended + 1
		// The end of a line is not wrong there, if the four lines are behind it.
		if ended >= 4 && strings.HasSuffix(text, "\n") {
			want = 0
		}
		if got := checkRead(t, text); got != want {
			t.Errorf("IaRead(%.300q) tells %d, want %d", text, got, want)
		}
	}
}

// Each byte is left out, changed, or has another one ahead of it.
func TestSpoiltTexts(t *testing.T) {
	read := 0
	for _, text := range []string{talkerText, "states 1 0\nins\nouts\nhids\n", wantedText(row(12))} {
		for place := range len(text) {
			spoilt := []string{text[:place] + text[place+1:]}
			for _, sign := range []string{" ", "\n", "0", "1", "9", "-", "+", "s", "\r", "\t", "\x00", "\xff"} {
				spoilt = append(spoilt, text[:place]+sign+text[place+1:], text[:place]+sign+text[place:])
			}
			for _, x := range spoilt {
				if checkRead(t, x) == 0 {
					read++
				}
			}
		}
	}
	if read < 50 {
		t.Fatalf("only %d of the spoilt texts are read", read)
	}
}

func TestDrawnTexts(t *testing.T) {
	d := draws(33)
	pieces := []string{"states 2 0\n", "ins\n", "ins 0\n", "outs\n", "outs 1\n", "hids\n", "hids 2\n", "step 0 1 0\n", "step 0 2 1\n", "step 1 2 0\n", "step", " ", "\n", "0", "12"}
	told := map[int]int{}
	for range 20000 {
		var text strings.Builder
		for place := range d.below(8) {
			// Mostly the piece that stands at its place, so that there are texts that are read.
			if right := []int{0, 1, 4, 6, 7, 8, 9}[min(place, 6)]; d.below(8) > 0 {
				text.WriteString(pieces[right])
			} else {
				text.WriteString(pieces[d.below(len(pieces))])
			}
		}
		told[checkRead(t, text.String())]++
	}
	for _, number := range []int{-1, 0, 1, 2, 3, 4, 5, 6, 7} {
		if told[number] < 5 {
			t.Errorf("%d is told of %d texts only: %v", number, told[number], told)
		}
	}
}

// automataOfAllSizes have lists of many lengths: whether a list has room behind it for the next one hangs on its length.
func automataOfAllSizes() map[string]impl.Ia {
	all := goodAutomata()
	for ins := range 13 {
		for outs := range 13 - ins {
			for hids := range min(4, 13-ins-outs) {
				acts := actionsOf(0xfff)
				all[fmt.Sprint("sets of ", ins, outs, hids)] = impl.Ia{States: 1, Ins: acts[:ins], Outs: acts[ins : ins+outs], Hids: acts[ins+outs : ins+outs+hids]}
			}
		}
	}
	return all
}

func TestListsOfWhatIsReadShareNoMemory(t *testing.T) {
	for name, a := range automataOfAllSizes() {
		text := wantedText(a)
		for i := range 4 {
			got, _ := impl.IaRead(text)
			left := cloneIa(a)
			switch i {
			case 0:
				scribble(got.Ins)
				got.Ins, left.Ins = nil, nil
			case 1:
				scribble(got.Outs)
				got.Outs, left.Outs = nil, nil
			case 2:
				scribble(got.Hids)
				got.Hids, left.Hids = nil, nil
			case 3:
				scribbleOf(got.Steps, sentinelStep)
				got.Steps, left.Steps = nil, nil
			}
			if !sameIa(got, left) {
				t.Fatalf("%s: two lists of IaRead share memory: %+v, want %+v", name, got, left)
			}
		}
	}
}

func TestNoReadIsKeptForAnother(t *testing.T) {
	first, _ := impl.IaRead(talkerText)
	scribbleIa(first)
	second, number := impl.IaRead(talkerText)
	if number != 0 || !sameIa(second, talker()) {
		t.Fatalf("%+v, %d", second, number)
	}
	impl.IaRead("states 3 0\nins 0\nouts 4\n")
	third, number := impl.IaRead("states 1 0\nins\nouts\nhids\n")
	if number != 0 || !sameIa(third, impl.Ia{States: 1}) || !sameIa(second, talker()) {
		t.Fatalf("%+v, %d, and the one ahead %+v", third, number, second)
	}
}

func TestIaTextLeavesAutomataAsTheyAre(t *testing.T) {
	for name, was := range automataForMemory() {
		a := roomyIa(was)
		impl.IaText(a)
		checkIaUntouched(t, name, a, was)
	}
}

func TestIaTextDoesNotReadSpareRoom(t *testing.T) {
	a := talker()
	a.Ins, a.Outs, a.Hids, a.Steps = a.Ins[:1], a.Outs[:1], a.Hids[:0], a.Steps[:4]
	want := "states 6 1\nins 0\nouts 1\nhids\nstep 0 1 0\nstep 0 1 3\nstep 0 1 5\nstep 1 0 0\n"
	if got := impl.IaText(a); got != want {
		t.Fatalf("%.300q", got)
	}
}
