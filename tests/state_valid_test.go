package tests

import (
	"math"
	"math/rand"
	"slices"
	"strings"
	"testing"

	"loop.example/kilnweb/impl"
)

// copyState gives a state that can be spoilt.
func copyState(s impl.State) impl.State {
	s.Roots = slices.Clone(s.Roots)
	s.Runs = slices.Clone(s.Runs)
	for i := range s.Runs {
		s.Runs[i].Texts = slices.Clone(s.Runs[i].Texts)
	}
	return s
}

// checkRefused: a state that is not valid has the answers that the document names.
func checkRefused(t *testing.T, what string, w impl.Web, s impl.State) {
	t.Helper()
	if impl.ValidState(w, s) {
		t.Errorf("%s: valid", what)
	}
	if got := impl.Ready(w, s); len(got) != 0 {
		t.Errorf("%s: ready %q", what, got)
	}
	for _, name := range []string{"a", "b", "c", "f", "gone", ""} {
		if got := impl.Do(w, s, name); len(got.Roots) != 0 || len(got.Runs) != 0 {
			t.Errorf("%s: done %s", what, name)
		}
		if got := slices.Concat(impl.Waits(w, s, name), impl.Uses(w, s, name), impl.Why(w, s, name)); len(got) != 0 {
			t.Errorf("%s: of %s %q", what, name, got)
		}
	}
	if got := append(impl.Circle(w, s), impl.Stuck(w, s)...); len(got) != 0 {
		t.Errorf("%s: a circle %q", what, got)
	}
	checkNothing(t, what, impl.Told(w, s))
}

// spoilt is a state and one thing that is changed in it.
type spoilt struct {
	what   string
	change func(s *impl.State)
}

func checkSpoilt(t *testing.T, w impl.Web, s impl.State, list ...spoilt) {
	t.Helper()
	if !impl.ValidState(w, s) {
		t.Fatalf("not valid: %s", tellState(s))
	}
	for _, c := range list {
		x := copyState(s)
		c.change(&x)
		if tellState(x) == tellState(s) {
			t.Fatalf("%s: nothing was changed", c.what)
		}
		checkRefused(t, c.what, w, x)
	}
}

// doAll does things one behind the other.
func doAll(w impl.Web, s impl.State, names string) impl.State {
	for _, name := range strings.Fields(names) {
		s = impl.Do(w, s, name)
	}
	return s
}

// halfDone is a web and a state of it: a waits for c, b and f are over, c is ready, d has not begun, u nobody has asked for.
func halfDone() (impl.Web, impl.State) {
	w := made(
		thing("a", 2, catches(1, "b", "f"), asks(2, "c", "b", "d"), end("A")),
		thing("b", 3, end("B")), thing("c", 5, asks(1, "b"), asks(2, "b"), end("C")),
		thing("d", 1, end("D")), thing("f", 1, bad("F")), thing("u", 1, end("U")))
	return w, doAll(w, impl.Start(w, []string{"a", "gone"}), "a b f a c c")
}

func TestValidStateHasRoots(t *testing.T) {
	w, s := halfDone()
	checkState(t, "half done", s, `["a" "gone"]; a? at 1 units 2 texts ["B()"]; b=B() at 0 units 1 texts []; c? at 1 units 2 texts ["B()"]; d? at 0 units 0 texts []; f!F() at 0 units 1 texts []`)
	set := func(roots ...string) func(*impl.State) { return func(s *impl.State) { s.Roots = roots } }
	checkSpoilt(t, w, s,
		spoilt{"no roots", set()},
		spoilt{"a root twice", set("a", "gone", "a")},
		spoilt{"a root twice that is none of the web", set("gone", "a", "gone")},
		spoilt{"a root that is no name", set("a", "-")},
		spoilt{"an empty root", set("a", "")},
		spoilt{"too many roots", set(append([]string{"a"}, make1(impl.MaxRoots, nameNo)...)...)},
		spoilt{"a root without a run", set("a", "u")},
		spoilt{"another root", set("c")},
		spoilt{"only a root that is none of the web", set("gone")},
		spoilt{"many roots", set(make([]string, 100000)...)})
	for _, name := range badNames {
		checkSpoilt(t, w, s, spoilt{name, set("a", name)})
	}
	// These could have been the roots as well.
	for _, roots := range [][]string{{"a"}, {"gone", "a"}, {"c", "a"}, {"a", "b", "c", "d", "f"}, append([]string{"a"}, make1(impl.MaxRoots-1, nameNo)...)} {
		x := copyState(s)
		x.Roots = roots
		if !impl.ValidState(w, x) {
			t.Errorf("%q: not valid", roots)
		}
	}
}

func TestValidStateHasRuns(t *testing.T) {
	w, s := halfDone()
	without := func(i int) func(*impl.State) {
		return func(s *impl.State) { s.Runs = slices.Delete(s.Runs, i, i+1) }
	}
	with := func(i int, r impl.Run) func(*impl.State) {
		return func(s *impl.State) { s.Runs = slices.Insert(s.Runs, i, r) }
	}
	checkSpoilt(t, w, s,
		spoilt{"no runs", func(s *impl.State) { s.Runs = nil }},
		spoilt{"without the root", without(0)},
		spoilt{"without one that is over", without(1)},
		spoilt{"without one that waits", without(2)},
		spoilt{"without one that has not begun", without(3)},
		spoilt{"without the last", without(4)},
		spoilt{"one nobody has asked for", with(5, impl.Run{Name: "u"})},
		spoilt{"one nobody has asked for, over", with(5, impl.Run{Name: "u", Over: true, Text: "U()", Visits: 1})},
		spoilt{"one that is none of the web", with(5, impl.Run{Name: "gone"})},
		spoilt{"one that is none of the web, over", with(5, impl.Run{Name: "gone", Over: true, Fail: true, Text: "no gone"})},
		spoilt{"one without a name", with(0, impl.Run{})},
		spoilt{"one twice", with(1, s.Runs[0])},
		spoilt{"the last twice", with(5, s.Runs[4])},
		spoilt{"not ascending", func(s *impl.State) { s.Runs[1], s.Runs[2] = s.Runs[2], s.Runs[1] }},
		spoilt{"the root at the end", func(s *impl.State) { s.Runs = append(s.Runs[1:], s.Runs[0]) }},
		spoilt{"another name", func(s *impl.State) { s.Runs[3].Name = "dd" }},
		spoilt{"many runs", func(s *impl.State) { s.Runs = append(s.Runs, make([]impl.Run, 100000)...) }},
		spoilt{"many runs, ascending", func(s *impl.State) {
			for i := range 10000 {
				s.Runs = append(s.Runs, impl.Run{Name: "g" + strings.Repeat("g", i%100) + rep(i/100)})
			}
		}})
}

// run gives a change of the run at a place.
func run(i int, change func(r *impl.Run)) func(*impl.State) {
	return func(s *impl.State) { change(&s.Runs[i]) }
}

func TestValidStateHasRunsAsTheyAre(t *testing.T) {
	w, s := halfDone()
	const a, b, c, d, f = 0, 1, 2, 3, 4
	at := func(i, at int) func(*impl.State) { return run(i, func(r *impl.Run) { r.At = at }) }
	units := func(i, n int) func(*impl.State) { return run(i, func(r *impl.Run) { r.Visits = n }) }
	texts := func(i int, list ...string) func(*impl.State) { return run(i, func(r *impl.Run) { r.Texts = list }) }
	text := func(i int, text string) func(*impl.State) { return run(i, func(r *impl.Run) { r.Text = text }) }
	flip := func(i int) func(*impl.State) { return run(i, func(r *impl.Run) { r.Over = !r.Over }) }
	fails := func(i int) func(*impl.State) { return run(i, func(r *impl.Run) { r.Fail = !r.Fail }) }
	for i, name := range []string{"a", "b", "c", "d", "f"} {
		checkSpoilt(t, w, s,
			spoilt{name + " over the other way", flip(i)},
			spoilt{name + " failed the other way", fails(i)},
			spoilt{name + " with another text", text(i, "x")},
			spoilt{name + " with a long text", text(i, rep(100000))},
			spoilt{name + " below its steps", at(i, -1)},
			spoilt{name + " behind its steps", at(i, 3)},
			spoilt{name + " far behind", at(i, math.MaxInt)},
			spoilt{name + " far below", at(i, math.MinInt)},
			spoilt{name + " with units below 0", units(i, -1)},
			spoilt{name + " with units far below 0", units(i, math.MinInt)},
			spoilt{name + " with the most units", units(i, impl.MaxVisits)},
			spoilt{name + " with more units than the most", units(i, impl.MaxVisits+1)},
			spoilt{name + " with far too many units", units(i, math.MaxInt)},
			spoilt{name + " with one unit more", units(i, s.Runs[i].Visits+1)},
			spoilt{name + " with one unit less", units(i, s.Runs[i].Visits-1)},
			spoilt{name + " with another text that came in", texts(i, append(slices.Clone(s.Runs[i].Texts), "B()")...)},
			spoilt{name + " with many texts", texts(i, make([]string, 100000)...)})
	}
	checkSpoilt(t, w, s,
		spoilt{"a at another step", at(a, 0)},
		spoilt{"a at its end", at(a, 2)},
		spoilt{"c at another step", at(c, 0)},
		spoilt{"d at another step", at(d, 1)},
		spoilt{"no texts", texts(a)},
		spoilt{"an empty text", texts(a, "")},
		spoilt{"another text", texts(a, "F()")},
		spoilt{"the failed one's text, too", texts(a, "B()", "F()")},
		spoilt{"a text twice", texts(c, "B()", "B()")},
		spoilt{"no text of one that is over", text(b, "")},
		spoilt{"a text of one that has not begun", texts(d, "")})
}

func TestValidStateHangsTogether(t *testing.T) {
	w, s := halfDone()
	over := run(2, func(r *impl.Run) {
		*r = impl.Run{Name: "c", Over: true, Text: "C(B(),B())", At: 2, Visits: 3, Texts: []string{"B()", "B()"}}
	})
	x := copyState(s)
	over(&x)
	if !impl.ValidState(w, x) {
		t.Errorf("c done: %s", tellState(x))
	}
	notBegun := func(i int, name string) func(*impl.State) {
		return run(i, func(r *impl.Run) { *r = impl.Run{Name: name} })
	}
	checkSpoilt(t, w, s,
		// Others have gone on with what they were answered by it.
		spoilt{"b has not begun", notBegun(1, "b")},
		spoilt{"f has not begun", notBegun(4, "f")},
		// It has asked for others.
		spoilt{"a has not begun", notBegun(0, "a")},
		spoilt{"a has begun", run(0, func(r *impl.Run) { *r = impl.Run{Name: "a", Visits: 1} })},
		spoilt{"a is over ahead of what it waits for", run(0, func(r *impl.Run) {
			*r = impl.Run{Name: "a", Over: true, Text: "A(B(),C(B(),B()),B(),D())", At: 2, Visits: 3, Texts: []string{"B()", "C(B(),B())", "B()", "D()"}}
		})},
		spoilt{"a is over with c, but ahead of d", func(s *impl.State) {
			over(s)
			s.Runs[0] = impl.Run{Name: "a", Over: true, Text: "A(B(),C(B(),B()),B(),D())", At: 2, Visits: 3, Texts: []string{"B()", "C(B(),B())", "B()", "D()"}}
		}})
	for _, good := range []func(*impl.State){notBegun(2, "c"), notBegun(3, "d"),
		run(3, func(r *impl.Run) { *r = impl.Run{Name: "d", Over: true, Text: "D()", Visits: 1} })} {
		x := copyState(s)
		good(&x)
		if !impl.ValidState(w, x) {
			t.Errorf("%s", tellState(x))
		}
	}
}

func TestValidStateWithSpent(t *testing.T) {
	const most = impl.MaxVisits
	w := made(thing("b", 1, end("B")), thing("ends", 1, steps(most-1, end("E"))...), thing("late", 1, steps(most-1, asks(0, "b"))...), thing("loop", 1, asks(0)))
	spend := run(0, func(r *impl.Run) { r.Over, r.Fail, r.Text = true, true, "spent" })
	loop := doTimes(w, impl.Start(w, []string{"loop"}), "loop", most)
	checkSpoilt(t, w, loop,
		spoilt{"over without a text", run(0, func(r *impl.Run) { r.Over, r.Fail = true, true })},
		spoilt{"over, but not failed", run(0, func(r *impl.Run) { r.Over, r.Text = true, "spent" })},
		spoilt{"one unit more", run(0, func(r *impl.Run) { r.Visits++ })},
		spoilt{"spent, and one unit more", func(s *impl.State) { spend(s); s.Runs[0].Visits++ }},
		spoilt{"spent ahead of the last unit", func(s *impl.State) { spend(s); s.Runs[0].Visits-- }})
	x := copyState(loop)
	spend(&x)
	if !impl.ValidState(w, x) || tellState(x) != tellState(impl.Do(w, loop, "loop")) {
		t.Error("spent, but not valid")
	}
	checkSpoilt(t, w, x, spoilt{"not over, but failed", run(0, func(r *impl.Run) { r.Over, r.Text = false, "" })})
	// One that still waits is not spent; one that has ended never is.
	late := doTimes(w, impl.Start(w, []string{"late"}), "late", most)
	spendLate := run(1, func(r *impl.Run) { r.Over, r.Fail, r.Text = true, true, "spent" })
	checkSpoilt(t, w, late, spoilt{"spent while it waits", spendLate})
	ends := doTimes(w, impl.Start(w, []string{"ends"}), "ends", most)
	checkSpoilt(t, w, ends, spoilt{"spent at an end", spend})
}

func TestStateOfAnotherWeb(t *testing.T) {
	w, s := halfDone()
	for i, other := range []impl.Web{
		{}, made(w.Nodes[1:]...), made(w.Nodes[:4]...), webOfSize(6),
		made(append(slices.Clone(w.Nodes[1:]), thing("a", 2, asks(1, "b", "f"), asks(2, "c", "b", "d"), end("A")))...),
		made(append(slices.Clone(w.Nodes), thing("gone", 1, end("")))...),
	} {
		if impl.CheckWeb(other) != 0 {
			t.Fatalf("web %d is not valid", i)
		}
		checkRefused(t, "web "+nameNo(i), other, s)
	}
	// What nobody has asked for may be another.
	if !impl.ValidState(made(w.Nodes[:5]...), s) || !impl.ValidState(made(append(slices.Clone(w.Nodes), thing("v", 1, asks(0)))...), s) {
		t.Error("a web that is the same as far as it is asked for")
	}
}

func TestWrongWebsAndRoots(t *testing.T) {
	good := web("a", "b")
	for i, w := range []impl.Web{
		webOfSize(impl.MaxNodes + 1), web("-"), web("a", "a"), web("b", "a"), broken(web("a", "b"), 1),
		made(thing("a", 1, asks(1))), made(thing("a", 1, asks(0, "b", "b"))), {Nodes: make([]impl.Node, 1)}, {Nodes: make([]impl.Node, 100000)},
	} {
		for _, roots := range [][]string{{"a"}, {"gone"}, {"a00"}, nil} {
			checkNoState(t, w, roots)
		}
		checkRefused(t, "web "+nameNo(i), w, impl.Start(good, []string{"a"}))
		checkRefused(t, "web "+nameNo(i), w, impl.State{Roots: []string{"gone"}})
		checkRefused(t, "web "+nameNo(i), w, impl.State{})
	}
	for _, roots := range [][]string{
		nil, {}, {""}, {"-"}, {"a", "a"}, {"a", "gone", "gone"}, {"a", "b,"}, make1(impl.MaxRoots+1, nameNo), make([]string, 100000),
	} {
		checkNoState(t, good, roots)
		checkRefused(t, "roots", good, impl.State{Roots: roots})
	}
	for _, name := range badNames {
		checkNoState(t, good, []string{"a", name})
		checkNoState(t, impl.Web{}, []string{name})
	}
	checkRefused(t, "nothing", good, impl.State{})
	checkRefused(t, "nothing in no web", impl.Web{}, impl.State{})
}

func checkNoState(t *testing.T, w impl.Web, roots []string) {
	t.Helper()
	if s := impl.Start(w, roots); len(s.Roots) != 0 || len(s.Runs) != 0 {
		t.Errorf("%.100q: %s", roots, tellState(s))
	}
	for _, picks := range [][]int{nil, {0}, {1, -1}} {
		if x := impl.Order(w, roots, picks); len(x.Done) != 0 || len(x.State.Roots) != 0 || len(x.State.Runs) != 0 {
			t.Errorf("%.100q: done %q", roots, x.Done)
		}
	}
}

// reached gives all states that can be come to, each by what is told of it; nil if they are too many.
func reached(w impl.Web, roots []string, most int) map[string]impl.State {
	first := begun(w, roots).state(roots)
	out := map[string]impl.State{tellState(first): first}
	ways := [][]string{nil}
	for len(ways) > 0 {
		way := ways[0]
		ways = ways[1:]
		x := begun(w, roots)
		for _, name := range way {
			x.do(name)
		}
		for _, name := range x.ready() {
			y := begun(w, roots)
			for _, name := range append(slices.Clone(way), name) {
				y.do(name)
			}
			s := y.state(roots)
			if _, seen := out[tellState(s)]; !seen {
				out[tellState(s)] = s
				ways = append(ways, append(slices.Clone(way), name))
			}
		}
		if len(out) > most {
			return nil
		}
	}
	return out
}

// spoil changes something in a state, often such that each part of it by itself could be.
func spoil(r *rand.Rand, s, other impl.State) impl.State {
	s = copyState(s)
	for range 1 + r.Intn(2) {
		if len(s.Runs) == 0 {
			return s
		}
		i := r.Intn(len(s.Runs))
		x := &s.Runs[i]
		switch r.Intn(12) {
		case 0:
			x.Visits += r.Intn(3) - 1
		case 1:
			x.At = max(0, x.At+r.Intn(3)-1)
		case 2:
			x.Over = !x.Over
		case 3:
			x.Fail = !x.Fail
		case 4:
			x.Text = []string{"", "spent", "below a01", "x()", "()", "below gone"}[r.Intn(6)]
		case 5:
			x.Texts = append(x.Texts, []string{"x()", "()"}[r.Intn(2)])
		case 6:
			x.Texts = x.Texts[:max(0, len(x.Texts)-1)]
		case 7:
			s.Runs = slices.Delete(s.Runs, i, i+1)
		case 8:
			s.Runs = append(s.Runs, impl.Run{Name: nameNo(r.Intn(4))})
			slices.SortFunc(s.Runs, func(a, b impl.Run) int { return strings.Compare(a.Name, b.Name) })
		default:
			// A run as it is in another state that can be come to.
			if there := runIn(other, x.Name); there.Name != "" {
				*x = there
				x.Texts = slices.Clone(x.Texts)
			}
		}
	}
	return s
}

// TestValidStatesAreThoseThatCanBeComeTo holds ValidState against all states that the definition leads to.
func TestValidStatesAreThoseThatCanBeComeTo(t *testing.T) {
	r := rand.New(rand.NewSource(10))
	good, wrong := 0, 0
	for range 250 {
		size := 1 + r.Intn(4)
		w, roots := lively(r, size), someRoots(r, size)
		all := reached(w, roots, 300)
		if all == nil {
			continue
		}
		var list []string
		for key, s := range all {
			list = append(list, key)
			if !impl.ValidState(w, s) {
				t.Fatalf("%v: not valid: %s", w, key)
			}
		}
		slices.Sort(list)
		for range 200 {
			x := spoil(r, all[list[r.Intn(len(list))]], all[list[r.Intn(len(list))]])
			_, want := all[tellState(x)]
			if impl.ValidState(w, x) != want {
				t.Fatalf("%v: %s: not %v", w, tellState(x), want)
			}
			if want {
				good++
			} else {
				wrong++
			}
		}
	}
	if good < 2000 || wrong < 5000 {
		t.Errorf("only %d that can be come to, and %d that can't", good, wrong)
	}
}

// TestStatesOfAnyMake: every function answers, whatever a state holds.
func TestStatesOfAnyMake(t *testing.T) {
	r := rand.New(rand.NewSource(11))
	number := func() int {
		return []int{0, 1, -1, impl.MaxVisits, impl.MaxVisits + 1, math.MaxInt, math.MinInt, r.Intn(9)}[r.Intn(8)]
	}
	some := func() string {
		return append([]string{nameNo(r.Intn(6)), nameNo(r.Intn(6)), "gone", "spent", rep(5000)}, badNames...)[r.Intn(5+len(badNames))]
	}
	for range 3000 {
		size := 1 + r.Intn(5)
		w := lively(r, size)
		s := impl.State{Roots: make1(r.Intn(12), func(int) string { return some() })}
		if r.Intn(2) == 0 {
			s.Roots = someRoots(r, size)
		}
		s.Runs = make1(r.Intn(10), func(i int) impl.Run {
			return impl.Run{Name: some(), Over: r.Intn(2) == 0, Fail: r.Intn(2) == 0, Text: some(), At: number(), Visits: number(), Texts: make1(r.Intn(3), func(int) string { return some() })}
		})
		if r.Intn(2) == 0 {
			slices.SortFunc(s.Runs, func(a, b impl.Run) int { return strings.Compare(a.Name, b.Name) })
		}
		if len(s.Runs) == 0 {
			impl.ValidState(w, s)
			continue
		}
		// A run that has not begun is no more than its name.
		s.Runs[0].Text = rep(1 + r.Intn(2))
		checkRefused(t, tellState(s)[:20], w, s)
	}
}
