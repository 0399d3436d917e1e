package tests

import (
	"fmt"
	"strings"
	"testing"

	"loop.example/kilnweb/impl"
)

// tellRun writes a run out, the empty list as the nil list.
func tellRun(r impl.Run) string {
	mark := "?"
	switch {
	case r.Over && r.Fail:
		mark = "!"
	case r.Over:
		mark = "="
	case r.Fail:
		mark = "?!"
	}
	return fmt.Sprintf("%s%s%s at %d units %d texts %q", r.Name, mark, r.Text, r.At, r.Visits, r.Texts)
}

func tellState(s impl.State) string {
	return fmt.Sprintf("%q", s.Roots) + "; " + strings.Join(make1(len(s.Runs), func(i int) string { return tellRun(s.Runs[i]) }), "; ")
}

// state is what the program is to say of the runs.
func (x jobs) state(roots []string) impl.State {
	out := impl.State{Roots: roots}
	for _, name := range x.names() {
		j := x.all[name]
		out.Runs = append(out.Runs, impl.Run{Name: name, Over: j.over, Fail: j.answer.Fail, Text: j.answer.Text, At: j.at, Visits: j.units, Texts: j.texts})
	}
	return out
}

func begun(w impl.Web, roots []string) *jobs {
	x := &jobs{web: w, all: map[string]*job{}}
	for _, root := range roots {
		x.want(root)
	}
	return x
}

// onTheWay is one thing that is done, and what is to be seen behind it.
type onTheWay struct {
	do    string
	ready string
	told  string
	run   string // of what was done
}

// checkWay does one thing behind the other.
func checkWay(t *testing.T, w impl.Web, s impl.State, way ...onTheWay) impl.State {
	t.Helper()
	for i, c := range way {
		s = impl.Do(w, s, c.do)
		if !impl.ValidState(w, s) {
			t.Fatalf("%d %s: a state that is not valid: %s", i, c.do, tellState(s))
		}
		if got := strings.Join(impl.Ready(w, s), " "); got != c.ready {
			t.Errorf("%d %s: ready %s, not %s", i, c.do, got, c.ready)
		}
		if got := tell(impl.Told(w, s)); got != c.told {
			t.Errorf("%d %s: told %s, not %s", i, c.do, got, c.told)
		}
		if got := tellRun(runIn(s, c.do)); got != c.run {
			t.Errorf("%d %s: %s, not %s", i, c.do, got, c.run)
		}
	}
	return s
}

func runIn(s impl.State, name string) impl.Run {
	for _, r := range s.Runs {
		if r.Name == name {
			return r
		}
	}
	return impl.Run{}
}

// doTimes does a thing so many times.
func doTimes(w impl.Web, s impl.State, name string, times int) impl.State {
	for range times {
		s = impl.Do(w, s, name)
	}
	return s
}

func checkState(t *testing.T, what string, s impl.State, want string) {
	t.Helper()
	if got := tellState(s); got != want {
		t.Errorf("%s: %s, not %s", what, got, want)
	}
}

func TestStart(t *testing.T) {
	w := made(thing("a", 2, asks(1, "b"), end("A")), thing("b", 3, end("B")), thing("c", 5, asks(0)))
	const nothing = " at 0 units 0 texts []"
	for _, c := range []struct{ roots, want, ready, told string }{
		{"a", `["a"]; a?` + nothing, "a", "2 0 0 a?"},
		{"c gone a", `["c" "gone" "a"]; a?` + nothing + "; c?" + nothing, "a c", "2 0 0 c? gone!no gone a?"},
		{"c b a", `["c" "b" "a"]; a?` + nothing + "; b?" + nothing + "; c?" + nothing, "a b c", "2 0 0 c? b? a?"},
		// Nothing is to be done for names that are none of the web.
		{"gone", `["gone"]; `, "", "0 0 0 gone!no gone"},
		{"z gone y", `["z" "gone" "y"]; `, "", "0 0 0 z!no z gone!no gone y!no y"},
	} {
		s := impl.Start(w, strings.Fields(c.roots))
		checkState(t, c.roots, s, c.want)
		if !impl.ValidState(w, s) {
			t.Errorf("%s: not valid", c.roots)
		}
		if got := strings.Join(impl.Ready(w, s), " "); got != c.ready {
			t.Errorf("%s: ready %s", c.roots, got)
		}
		if got := tell(impl.Told(w, s)); got != c.told {
			t.Errorf("%s: told %s", c.roots, got)
		}
	}
	most := make1(impl.MaxRoots, nameNo)
	if s := impl.Start(webOfSize(impl.MaxNodes), most); len(s.Runs) != impl.MaxRoots || !impl.ValidState(webOfSize(impl.MaxNodes), s) {
		t.Errorf("as many roots as may be: %s", tellState(s))
	}
	checkState(t, "the empty web", impl.Start(impl.Web{}, []string{"a"}), `["a"]; `)
}

func TestStatesOnTheWay(t *testing.T) {
	w := made(
		thing("a", 2, asks(2, "b", "c"), end("A"), catches(1, "gone", "f")),
		thing("b", 3, end("B")), thing("c", 5, asks(1, "b"), end("C")),
		thing("f", 7, bad("F")), thing("g", 11, asks(1, "b", "f"), end("G")))
	s := impl.Start(w, []string{"a", "g"})
	checkWay(t, w, s,
		onTheWay{"a", "b c g", "2 1 2 a? g?", "a? at 0 units 1 texts []"},
		onTheWay{"b", "c g", "2 2 5 a? g?", "b=B() at 0 units 1 texts []"},
		onTheWay{"c", "c g", "2 3 10 a? g?", "c? at 0 units 1 texts []"},
		onTheWay{"g", "c f", "2 4 21 a? g?", "g? at 0 units 1 texts []"},
		onTheWay{"c", "a f", "2 5 26 a? g?", `c=C(B()) at 1 units 2 texts ["B()"]`},
		onTheWay{"a", "f", "2 6 28 a? g?", `a? at 2 units 2 texts ["B()" "C(B())"]`},
		onTheWay{"f", "a g", "2 7 35 a? g?", "f!F() at 0 units 1 texts []"},
		// It has gone on to no step, so it stays where it was, without that step's texts.
		onTheWay{"g", "a", "2 8 46 a? g!below f", "g!below f at 0 units 2 texts []"},
		onTheWay{"a", "", "0 9 48 a=A(B(),C(B())) g!below f", `a=A(B(),C(B())) at 1 units 3 texts ["B()" "C(B())"]`})
	checkWay(t, w, s,
		onTheWay{"g", "a b f", "2 1 11 a? g?", "g? at 0 units 1 texts []"},
		onTheWay{"f", "a b", "2 2 18 a? g?", "f!F() at 0 units 1 texts []"},
		onTheWay{"b", "a g", "2 3 21 a? g?", "b=B() at 0 units 1 texts []"},
		onTheWay{"g", "a", "2 4 32 a? g!below f", "g!below f at 0 units 2 texts []"},
		// What it asks for first is over already.
		onTheWay{"a", "c", "2 5 34 a? g!below f", "a? at 0 units 1 texts []"},
		onTheWay{"c", "c", "2 6 39 a? g!below f", "c? at 0 units 1 texts []"},
		onTheWay{"c", "a", "2 7 44 a? g!below f", `c=C(B()) at 1 units 2 texts ["B()"]`},
		onTheWay{"a", "a", "2 8 46 a? g!below f", `a? at 2 units 2 texts ["B()" "C(B())"]`},
		onTheWay{"a", "", "0 9 48 a=A(B(),C(B())) g!below f", `a=A(B(),C(B())) at 1 units 3 texts ["B()" "C(B())"]`})
}

func TestStatesWithCircles(t *testing.T) {
	w := made(
		thing("b", 1, end("B")),
		thing("self", 1, asks(1, "self"), end("S")),
		thing("x", 2, asks(1, "b"), asks(2, "y", "b"), end("X")),
		thing("y", 3, asks(1, "x"), end("Y")))
	checkWay(t, w, impl.Start(w, []string{"self"}),
		onTheWay{"self", "", "1 1 1 self? >self", "self? at 0 units 1 texts []"})
	// As long as something is ready there is no chain, though the circle is there.
	checkWay(t, w, impl.Start(w, []string{"self", "x"}),
		onTheWay{"self", "x", "2 1 1 self? x?", "self? at 0 units 1 texts []"},
		onTheWay{"x", "b", "2 2 3 self? x?", "x? at 0 units 1 texts []"},
		onTheWay{"b", "x", "2 3 4 self? x?", "b=B() at 0 units 1 texts []"},
		onTheWay{"x", "y", "2 4 6 self? x?", `x? at 1 units 2 texts ["B()"]`},
		onTheWay{"y", "", "1 5 9 self? x? >self", "y? at 0 units 1 texts []"})
	checkWay(t, w, impl.Start(w, []string{"b", "y", "gone"}),
		onTheWay{"y", "b x", "2 1 3 b? y? gone!no gone", "y? at 0 units 1 texts []"},
		onTheWay{"x", "b", "2 2 5 b? y? gone!no gone", "x? at 0 units 1 texts []"},
		onTheWay{"b", "x", "2 3 6 b=B() y? gone!no gone", "b=B() at 0 units 1 texts []"},
		onTheWay{"x", "", "1 4 8 b=B() y? gone!no gone >x >y", `x? at 1 units 2 texts ["B()"]`})
}

func TestStatesThatAreSpent(t *testing.T) {
	const most = impl.MaxVisits
	w := made(
		thing("b", 1, end("B")),
		thing("ends", 1, steps(most-1, end("E"))...),
		thing("falls", 1, steps(most-2, asks(0, "gone"))...),
		thing("late", 3, steps(most-1, asks(0, "b"))...),
		thing("lategone", 3, steps(most-1, asks(0, "gone"))...),
		thing("loop", 2, asks(0)))
	s := doTimes(w, impl.Start(w, []string{"loop"}), "loop", most-1)
	checkWay(t, w, s,
		onTheWay{"loop", "loop", "2 20 40 loop?", "loop? at 0 units 20 texts []"},
		onTheWay{"loop", "", "0 20 40 loop!spent", "loop!spent at 0 units 20 texts []"},
		onTheWay{"loop", "", "0 20 40 loop!spent", "loop!spent at 0 units 20 texts []"})
	// It has all its units, but still waits.
	s = doTimes(w, impl.Start(w, []string{"late"}), "late", most-1)
	checkWay(t, w, s,
		onTheWay{"late", "b", "2 20 60 late?", "late? at 19 units 20 texts []"},
		onTheWay{"late", "b", "2 20 60 late?", "late? at 19 units 20 texts []"},
		onTheWay{"b", "late", "2 21 61 late?", "b=B() at 0 units 1 texts []"},
		onTheWay{"late", "", "0 21 61 late!spent", "late!spent at 19 units 20 texts []"})
	// To be spent goes ahead of a failed answer.
	s = doTimes(w, impl.Start(w, []string{"lategone"}), "lategone", most-1)
	checkWay(t, w, s,
		onTheWay{"lategone", "lategone", "2 20 60 lategone?", "lategone? at 19 units 20 texts []"},
		onTheWay{"lategone", "", "0 20 60 lategone!spent", "lategone!spent at 19 units 20 texts []"})
	// These end with their last unit, so they are not spent.
	s = doTimes(w, impl.Start(w, []string{"ends", "falls"}), "ends", most-1)
	s = doTimes(w, s, "falls", most-1)
	checkWay(t, w, s,
		onTheWay{"ends", "falls", "2 39 39 ends=E() falls?", "ends=E() at 19 units 20 texts []"},
		onTheWay{"falls", "", "0 40 40 ends=E() falls!below gone", "falls!below gone at 18 units 20 texts []"})
}

func TestTextsEachTimeAnew(t *testing.T) {
	w := made(
		thing("b", 1, end("B")), thing("c", 1, end("C")), thing("f", 1, bad("F")),
		thing("round", 1, catches(1, "c", "f", "b"), asks(2), asks(0, "b")),
		thing("same", 1, catches(0, "b", "gone")))
	s := impl.Start(w, []string{"same", "b", "c", "f", "round"})
	for _, name := range []string{"b", "c", "f"} {
		s = impl.Do(w, s, name)
	}
	var texts []string
	for units := 1; units <= impl.MaxVisits; units++ {
		s = impl.Do(w, s, "same")
		if got, want := tellRun(runIn(s, "same")), fmt.Sprintf("same? at 0 units %d texts %q", units, texts); got != want || !impl.ValidState(w, s) {
			t.Fatalf("%s, not %s", got, want)
		}
		texts = append(texts, "B()")
	}
	texts = nil
	for units := 1; units <= impl.MaxVisits; units++ {
		s = impl.Do(w, s, "round")
		if got, want := tellRun(runIn(s, "round")), fmt.Sprintf("round? at %d units %d texts %q", (units-1)%3, units, texts); got != want || !impl.ValidState(w, s) {
			t.Fatalf("%s, not %s", got, want)
		}
		switch units % 3 {
		case 1:
			texts = append(texts, "C()", "B()")
		case 0:
			texts = append(texts, "B()")
		}
	}
	s = impl.Do(w, impl.Do(w, s, "same"), "round")
	if got := tell(impl.Told(w, s)); got != "0 43 43 same!spent b=B() c=C() f!F() round!spent" {
		t.Error(got)
	}
}

// TestDoMakesRunsOnce: what is asked for has a run then, but none that is there is made anew.
func TestDoMakesRunsOnce(t *testing.T) {
	w := made(
		thing("a", 1, asks(1, "gone", "z", "b", "a"), end("A")),
		thing("b", 1, asks(1, "c"), end("B")), thing("c", 1, end("C")), thing("unasked", 1, end("U")), thing("z", 1, asks(1, "b"), end("Z")))
	s := impl.Do(w, impl.Start(w, []string{"a"}), "a")
	checkState(t, "a", s, `["a"]; a? at 0 units 1 texts []; b? at 0 units 0 texts []; z? at 0 units 0 texts []`)
	s = impl.Do(w, impl.Do(w, s, "b"), "c")
	s = impl.Do(w, s, "z")
	checkState(t, "z", s, `["a"]; a? at 0 units 1 texts []; b? at 0 units 1 texts []; c=C() at 0 units 1 texts []; z? at 0 units 1 texts []`)
}

func TestDoOfWhatIsNotReadyGivesTheState(t *testing.T) {
	w := made(thing("a", 1, asks(1, "b", "c"), end("A")), thing("b", 1, end("B")), thing("c", 1, asks(1, "b"), end("C")), thing("d", 1, end("D")))
	s := impl.Start(w, []string{"a", "gone"})
	for _, name := range []string{"a", "b", "c"} {
		s = impl.Do(w, s, name)
	}
	want := tellState(s)
	names := append([]string{"a", "b", "d", "gone", "other", "A", "c ", "cc", rep(100000)}, badNames...)
	for _, name := range names {
		checkState(t, name, impl.Do(w, s, name), want)
	}
}
