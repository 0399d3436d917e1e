package tests

import (
	"fmt"
	"hash/fnv"
	"math/rand"
	"strings"
	"testing"

	"loop.example/kilnweb/impl"
)

func TestCostAndNumberOfSteps(t *testing.T) {
	for cost, want := range map[int]bool{-1: false, 0: false, 1: true, impl.MaxCost: true, impl.MaxCost + 1: false} {
		if impl.ValidAction(impl.Action{Cost: cost, Steps: ends(1)}) != want {
			t.Errorf("cost %d", cost)
		}
	}
	for steps, want := range map[int]bool{0: false, 1: true, impl.MaxSteps: true, impl.MaxSteps + 1: false} {
		if impl.ValidAction(impl.Action{Cost: 1, Steps: ends(steps)}) != want {
			t.Errorf("%d steps", steps)
		}
	}
}

// badNames are no names, goodNames are.
var (
	badNames = []string{"", "-", ",", "a,", "a b", " ", "a\n", "a\x00", "a\x7f", "a\x80", "ä", rep(impl.MaxName + 1)}

	goodNames = []string{"!", "~", "a", "--", "-1", "+", ".", `"`, `\`, "=", rep(impl.MaxName)}
)

func TestNamesOfAsks(t *testing.T) {
	for _, name := range badNames {
		if impl.ValidAction(one(impl.Step{Asks: []string{"x", name}})) {
			t.Errorf("%q is no name", name)
		}
	}
	for _, name := range goodNames {
		if !impl.ValidAction(one(impl.Step{Asks: []string{"x", name}})) {
			t.Errorf("%q is a name", name)
		}
	}
	for b := range 256 {
		name := "a" + string([]byte{byte(b)})
		want := b >= 33 && b <= 126 && b != ','
		if impl.ValidAction(one(impl.Step{Asks: []string{name}})) != want {
			t.Errorf("byte %d", b)
		}
	}
}

// stepCase is a step of an action with three steps, and whether it is valid.
type stepCase struct {
	step impl.Step
	want bool
}

func stepCases() []stepCase {
	asks := func(n int) []string { return make1(n, nameNo) }
	cases := func(n int) []impl.Case { return make([]impl.Case, n) }
	return []stepCase{
		{end(""), true},
		{end(rep(impl.MaxGive)), true},
		{end(rep(impl.MaxGive + 1)), false},
		{bad(""), true},
		{bad(rep(impl.MaxGive)), true},
		{bad(rep(impl.MaxGive + 1)), false},
		{impl.Step{End: true, Asks: []string{}, Cases: []impl.Case{}}, true},
		{impl.Step{End: true, Asks: []string{"x"}}, false},
		{impl.Step{End: true, Bad: true, Asks: []string{"x"}}, false},
		{impl.Step{End: true, On: 1}, false},
		{impl.Step{End: true, Cases: cases(1)}, false},
		{impl.Step{End: true, Else: 1}, false},
		{impl.Step{End: true, Fall: 1}, false},
		{impl.Step{End: true, Fall: -1}, false},
		{impl.Step{End: true, Bad: true, Fall: -1}, false},
		{impl.Step{}, true},
		{impl.Step{Bad: true}, false},
		{impl.Step{Give: "x"}, false},
		{impl.Step{Asks: asks(impl.MaxAsks)}, true},
		{impl.Step{Asks: asks(impl.MaxAsks + 1)}, false},
		{impl.Step{Asks: []string{"x", "y", "x"}}, false},
		{impl.Step{Asks: []string{"x", "X", "x1"}}, true},
		{impl.Step{On: 1}, false},
		{impl.Step{On: -1}, false},
		{impl.Step{Asks: asks(2), On: -1}, false},
		{impl.Step{Asks: asks(2), On: 1}, true},
		{impl.Step{Asks: asks(2), On: 2}, false},
		{impl.Step{Cases: cases(impl.MaxCases)}, true},
		{impl.Step{Cases: cases(impl.MaxCases + 1)}, false},
		{impl.Step{Cases: []impl.Case{{Text: rep(impl.MaxText)}}}, true},
		{impl.Step{Cases: []impl.Case{{}, {Text: rep(impl.MaxText + 1)}}}, false},
		{impl.Step{Cases: []impl.Case{{Goto: 2}}}, true},
		{impl.Step{Cases: []impl.Case{{}, {Goto: 3}}}, false},
		{impl.Step{Cases: []impl.Case{{Goto: -1}}}, false},
		{impl.Step{Else: 2}, true},
		{impl.Step{Else: 3}, false},
		{impl.Step{Else: -1}, false},
		{impl.Step{Fall: 2}, true},
		{impl.Step{Fall: 3}, false},
		{impl.Step{Fall: -1}, true},
		{impl.Step{Fall: -2}, false},
	}
}

func TestValidSteps(t *testing.T) {
	for i, c := range stepCases() {
		if impl.ValidAction(one(c.step)) != c.want {
			t.Errorf("case %d, as the first step", i)
		}
		last := impl.Action{Cost: 1, Steps: []impl.Step{end("A"), bad("B"), c.step}}
		if impl.ValidAction(last) != c.want {
			t.Errorf("case %d, as the last step", i)
		}
		if !c.want && impl.GoOn(last, 2, nil) != (impl.Gone{Code: 1}) {
			t.Errorf("case %d: it goes on", i)
		}
	}
}

func TestGoOnWays(t *testing.T) {
	cases := []impl.Case{{Text: "p", Goto: 2}, {Text: "p", Goto: 1}, {Text: "", Goto: 1}, {Text: rep(impl.MaxText), Goto: 2}}
	falls := one(impl.Step{Asks: []string{"x", "y", "z"}, On: 1, Cases: cases, Else: 0, Fall: 1})
	ends := one(impl.Step{Asks: []string{"x", "y", "z"}, On: 1, Cases: cases, Else: 0, Fall: -1})
	back := one(impl.Step{Asks: []string{"x"}, Else: 1, Fall: 0})
	free := one(impl.Step{Cases: []impl.Case{{Text: "", Goto: 2}}, Else: 1, Fall: -1})
	for i, c := range []struct {
		a    impl.Action
		y    []impl.Answer
		want impl.Gone
	}{
		{falls, []impl.Answer{ok(""), ok("p"), ok("")}, impl.Gone{At: 2}},
		{falls, []impl.Answer{ok("p"), ok(""), ok("p")}, impl.Gone{At: 1}},
		{falls, []impl.Answer{ok("p"), ok("q"), ok("p")}, impl.Gone{At: 0}},
		{falls, []impl.Answer{ok("p"), ok("P"), ok("p")}, impl.Gone{At: 0}},
		{falls, []impl.Answer{ok("p"), ok(rep(impl.MaxText)), ok("p")}, impl.Gone{At: 2}},
		{falls, []impl.Answer{ok("p"), ok(rep(impl.MaxText - 1)), ok("p")}, impl.Gone{At: 0}},
		// A failure goes ahead of the cases, whichever ask it answers.
		{falls, []impl.Answer{ok("p"), fail("p"), ok("p")}, impl.Gone{At: 1}},
		{falls, []impl.Answer{fail("p"), ok("p"), ok("p")}, impl.Gone{At: 1}},
		{falls, []impl.Answer{ok("p"), ok("p"), fail(rep(impl.MaxText))}, impl.Gone{At: 1}},
		{ends, []impl.Answer{ok("p"), fail("p"), ok("p")}, impl.Gone{Over: true, Text: "below y"}},
		{ends, []impl.Answer{ok("p"), ok("p"), fail("p")}, impl.Gone{Over: true, Text: "below z"}},
		{ends, []impl.Answer{fail(""), ok("p"), fail("p")}, impl.Gone{Over: true, Text: "below x"}},
		{ends, []impl.Answer{ok(""), ok("p"), ok("")}, impl.Gone{At: 2}},
		{back, []impl.Answer{fail("")}, impl.Gone{At: 0}},
		// Nothing was asked for, so no case is looked at.
		{free, nil, impl.Gone{At: 1}},
		{free, []impl.Answer{}, impl.Gone{At: 1}},
	} {
		if g := impl.GoOn(c.a, 0, c.y); g != c.want {
			t.Errorf("case %d: %+v", i, g)
		}
	}
}

func TestGoOnRefuses(t *testing.T) {
	a := one(impl.Step{Asks: []string{"x", "y"}, Fall: -1})
	two := []impl.Answer{ok("p"), fail("q")}
	costly := impl.Action{Cost: impl.MaxCost + 1, Steps: a.Steps}
	later := impl.Action{Cost: 1, Steps: append(ends(1), a.Steps[0], end(rep(impl.MaxGive+1)))}
	for i, c := range []struct {
		a  impl.Action
		at int
		y  []impl.Answer
	}{
		{costly, 0, two}, {later, 1, two}, {impl.Action{}, 0, nil},
		{a, -1, two}, {a, 1, nil}, {a, 2, nil}, {a, 3, nil}, {a, 1, two}, {a, 1 << 62, two}, {a, -1 << 63, two},
		{a, 0, nil}, {a, 0, two[:1]}, {a, 0, append(two, ok(""))[:3:3]},
		{a, 0, []impl.Answer{ok(rep(impl.MaxText + 1)), ok("")}},
		{a, 0, []impl.Answer{fail(""), fail(rep(impl.MaxText + 1))}},
	} {
		if g := impl.GoOn(c.a, c.at, c.y); g != (impl.Gone{Code: 1}) {
			t.Errorf("case %d: %+v", i, g)
		}
	}
}

// wanted says by the document's words what follows a valid step.
func wanted(s impl.Step, y []impl.Answer) impl.Gone {
	for i := range y {
		if y[i].Fail && s.Fall == -1 {
			return impl.Gone{Over: true, Text: "below " + s.Asks[i]}
		} else if y[i].Fail {
			return impl.Gone{At: s.Fall}
		}
	}
	for _, c := range s.Cases {
		if len(y) > 0 && c.Text == y[s.On].Text {
			return impl.Gone{At: c.Goto}
		}
	}
	return impl.Gone{At: s.Else}
}

// Promise 1: GoOn of a valid action gives a step or an end.
func TestPromise1GoOn(t *testing.T) {
	r := rand.New(rand.NewSource(1))
	for range 2000 {
		a := randomAction(r)
		if !impl.ValidAction(a) {
			t.Fatalf("not valid: %+v", a)
		}
		for at, s := range a.Steps {
			y := make1(len(s.Asks), func(int) impl.Answer { return impl.Answer{Fail: r.Intn(6) == 0, Text: word(r)} })
			g := impl.GoOn(a, at, y)
			if s.End {
				if g != (impl.Gone{Code: 1}) {
					t.Fatalf("behind an end: %+v", g)
				}
				continue
			}
			isStep := !g.Over && g.At >= 0 && g.At < len(a.Steps) && g.Text == ""
			isEnd := g.Over && g.At == 0 && strings.HasPrefix(g.Text, "below ") && len(g.Text) <= impl.MaxText
			if g.Code != 0 || isStep == isEnd || g != wanted(s, y) {
				t.Fatalf("%+v with %+v: %+v", s, y, g)
			}
			if impl.GoOn(a, at, append(y, ok(""))) != (impl.Gone{Code: 1}) {
				t.Fatal("one answer more")
			}
		}
	}
}

// whole is what comes out ahead of the limit.
func whole(give string, texts []string) string {
	return give + "(" + strings.Join(texts, ",") + ")"
}

// summed writes the sum of a text by another way than the program's.
func summed(text string) string {
	h := fnv.New64a()
	h.Write([]byte(text))
	return fmt.Sprintf("#%016x", h.Sum64())
}

func TestFinishTexts(t *testing.T) {
	for i, c := range []struct {
		give  string
		texts []string
		want  string
	}{
		{"", nil, "()"},
		{"", []string{}, "()"},
		{"", []string{""}, "()"},
		{"", []string{"", ""}, "(,)"},
		{"A", []string{"B()", "C(B())"}, "A(B(),C(B()))"},
		{"\xff(", []string{"\x00", ",)"}, "\xff((\x00,,))"},
		{rep(impl.MaxGive), nil, rep(impl.MaxGive) + "()"},
		{rep(impl.MaxGive + 1), nil, ""},
		{"", make([]string, 100), "(" + strings.Repeat(",", 99) + ")"},
		{"", make([]string, 101), ""},
		{"", []string{"", rep(impl.MaxText + 1)}, ""},
	} {
		if got := impl.Finish(c.give, c.texts); got != c.want {
			t.Errorf("case %d: %q", i, got)
		}
	}
}

func TestFinishAtTheLimit(t *testing.T) {
	for _, give := range []string{"", "g", rep(impl.MaxGive)} {
		full := impl.MaxText - len(give) - len("(,)")
		just := []string{rep(100), rep(full - 100)}
		if got := impl.Finish(give, just); len(got) != impl.MaxText || got != whole(give, just) {
			t.Errorf("just full: %q", got)
		}
		more := []string{rep(100), rep(full - 99)}
		if got := impl.Finish(give, more); got != summed(whole(give, more)) {
			t.Errorf("one more: %q", got)
		}
	}
	long := make1(100, func(int) string { return "\xfe" + rep(impl.MaxText-1) })
	if got := impl.Finish(rep(impl.MaxGive), long); got != summed(whole(rep(impl.MaxGive), long)) {
		t.Errorf("all limits: %q", got)
	}
}

// Promise 1: Finish is at most MaxText bytes; its sum has all 16 digits, zeros ahead too.
func TestPromise1Finish(t *testing.T) {
	r := rand.New(rand.NewSource(2))
	zeros := 0
	for range 5000 {
		give := rep(r.Intn(impl.MaxGive + 1))
		texts := make1(r.Intn(8), func(int) string { return word(r) })
		got := impl.Finish(give, texts)
		want := whole(give, texts)
		if len(want) > impl.MaxText {
			want = summed(want)
		}
		if len(got) > impl.MaxText || got != want {
			t.Fatalf("%q of %q: %q", give, texts, got)
		}
		if strings.HasPrefix(got, "#0") && len(got) == 17 {
			zeros++
		}
	}
	if zeros == 0 {
		t.Error("no sum with a zero ahead was tried")
	}
}
