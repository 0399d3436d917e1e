package tests

import (
	"math/rand"
	"slices"
	"strings"
	"testing"

	"loop.example/kilnweb/impl"
)

// everyName gives all names of a web, some that are none of it, and some that are no names.
func everyName(w impl.Web) []string {
	names := make1(len(w.Nodes), func(i int) string { return w.Nodes[i].Name })
	return slices.Concat(names, []string{"gone", "no such thing", "A", "a ", rep(100000)}, badNames)
}

// tellEach writes out what a function gives of every name, where it gives something.
func tellEach(w impl.Web, of func(name string) []string) string {
	var out []string
	for _, name := range everyName(w) {
		if got := of(name); len(got) > 0 {
			out = append(out, name+":"+strings.Join(got, ","))
		}
	}
	return strings.Join(out, " ")
}

func tellWaits(w impl.Web, s impl.State) string {
	return tellEach(w, func(name string) []string { return impl.Waits(w, s, name) })
}

func tellUses(w impl.Web, s impl.State) string {
	return tellEach(w, func(name string) []string { return impl.Uses(w, s, name) })
}

func tellWhy(w impl.Web, s impl.State) string {
	return tellEach(w, func(name string) []string { return impl.Why(w, s, name) })
}

func checkText(t *testing.T, what, got, want string) {
	t.Helper()
	if got != want {
		t.Errorf("%s: %s, not %s", what, got, want)
	}
}

func checkNames(t *testing.T, what string, got []string, want string) {
	t.Helper()
	checkText(t, what, strings.Join(got, " "), want)
}

// needed is one thing that is done, and who waits for whom behind it, who has asked for whom, and who failed because of whom.
type needed struct {
	do     string
	waits  string
	circle string
	stuck  string
	uses   string
	why    string
}

func checkNeeded(t *testing.T, w impl.Web, s impl.State, way ...needed) {
	t.Helper()
	for i, c := range way {
		s = impl.Do(w, s, c.do)
		if !impl.ValidState(w, s) {
			t.Fatalf("%d %s: a state that is not valid: %s", i, c.do, tellState(s))
		}
		what := nameNo(i) + " " + c.do + " "
		checkText(t, what+"waits", tellWaits(w, s), c.waits)
		checkNames(t, what+"circle", impl.Circle(w, s), c.circle)
		checkNames(t, what+"stuck", impl.Stuck(w, s), c.stuck)
		checkText(t, what+"uses", tellUses(w, s), c.uses)
		checkText(t, what+"why", tellWhy(w, s), c.why)
	}
}

func TestNeedsOnTheWay(t *testing.T) {
	w := made(
		thing("a", 1, catches(1, "gone", "b"), asks(2, "c", "b"), end("A")),
		thing("b", 1, bad("B")),
		thing("c", 1, asks(1, "d"), asks(2, "a"), end("C")),
		thing("d", 1, end("D")),
		thing("e", 1, asks(1, "c", "f"), end("E")),
		thing("f", 1, asks(1, "b"), end("F")),
		thing("u", 1, asks(1, "a"), end("U")))
	checkNeeded(t, w, impl.Start(w, []string{"e", "a", "gone"}),
		// Nothing is done.
		needed{"d", "", "", "", "", ""},
		needed{"a", "a:b", "", "", "b:a gone:a", ""},
		needed{"b", "", "", "", "b:a gone:a", "b:b"},
		// It asks for b again, which is over; c has not begun.
		needed{"a", "a:c", "", "", "b:a c:a gone:a", "b:b"},
		needed{"e", "a:c e:c,f", "", "", "b:a c:a,e f:e gone:a", "b:b"},
		needed{"c", "a:c c:d e:c,f", "", "", "b:a c:a,e d:a,c,e f:e gone:a", "b:b"},
		needed{"f", "a:c c:d e:c,f", "", "", "b:a,e,f c:a,e d:a,c,e f:e gone:a", "b:b"},
		needed{"d", "a:c e:c,f", "", "", "b:a,e,f c:a,e d:a,c,e f:e gone:a", "b:b"},
		// The circle is there, though something is ready; e waits for it, and is in none.
		needed{"c", "a:c c:a e:c,f", "a c", "a c e", "a:a,c,e b:a,c,e,f c:a,c,e d:a,c,e f:e gone:a,c,e", "b:b"},
		needed{"f", "a:c c:a e:c", "a c", "a c e", "a:a,c,e b:a,c,e,f c:a,c,e d:a,c,e f:e gone:a,c,e", "b:b f:f,b"})
}

func TestNeedsWhenAllIsDone(t *testing.T) {
	w := made(
		thing("a", 1, asks(1, "c", "b"), end("A")),
		thing("b", 1, end("B")),
		thing("c", 1, catches(1, "f"), asks(2, "b"), end("C")),
		thing("f", 1, asks(1, "b", "gone"), end("F")))
	for _, picks := range [][]int{nil, {1}, {2, 0, 1}} {
		s := impl.Order(w, []string{"a"}, picks).State
		checkNeeded(t, w, s, needed{"a", "", "", "", "b:a,c,f c:a f:a,c gone:a,c,f", "f:f,gone"})
		s = impl.Order(w, []string{"b", "c"}, picks).State
		checkNeeded(t, w, s, needed{"a", "", "", "", "b:c,f f:c gone:c,f", "f:f,gone"})
		s = impl.Order(w, []string{"gone"}, picks).State
		checkNeeded(t, w, s, needed{"a", "", "", "", "", ""})
	}
}

func TestWaitsForOneself(t *testing.T) {
	w := made(thing("i", 1, asks(1, "i"), end("I")), thing("j", 1, asks(1, "j", "i"), end("J")), thing("k", 1, asks(1, "i"), end("K")))
	checkNeeded(t, w, impl.Start(w, []string{"k", "j"}),
		needed{"k", "k:i", "", "", "i:k", ""},
		needed{"j", "j:i,j k:i", "j", "j", "i:j,k j:j", ""},
		// It is shown first then, since it is less; k waits for it.
		needed{"i", "i:i j:i,j k:i", "i", "i j k", "i:i,j,k j:j", ""})
}

// TestWaitsForTheMost: as many names as can be asked for at once, told ascending; one that is over is none of them.
func TestWaitsForTheMost(t *testing.T) {
	leaf := func(name string) impl.Node { return thing(name, 1, end("")) }
	w := made(thing("a", 1, asks(1, "e", "B", "d", "bb", "c"), end("")), leaf("B"), leaf("bb"), leaf("c"), leaf("d"), leaf("e"))
	s := impl.Do(w, impl.Start(w, []string{"a"}), "a")
	for range 50 {
		checkNames(t, "all", impl.Waits(w, s, "a"), "B bb c d e")
	}
	s = doAll(w, s, "e bb")
	checkNames(t, "but two", impl.Waits(w, s, "a"), "B c d")
	s = doAll(w, s, "c B d")
	checkNames(t, "none", impl.Waits(w, s, "a"), "")
	if got := strings.Join(impl.Ready(w, s), " "); got != "a" {
		t.Errorf("ready %s", got)
	}
}

// TestNeedsAtTheLastUnit: a run that has all its units waits all the same, and a circle through it is one.
func TestNeedsAtTheLastUnit(t *testing.T) {
	const most = impl.MaxVisits
	w := made(thing("late", 1, steps(most-1, asks(0, "b", "x"))...), thing("b", 1, end("")), thing("x", 1, asks(1, "late"), end("")))
	s := doTimes(w, impl.Start(w, []string{"late"}), "late", most-1)
	checkNeeded(t, w, s,
		needed{"late", "late:b,x", "", "", "b:late x:late", ""},
		needed{"x", "late:b,x x:late", "late x", "late x", "b:late,x late:late,x x:late,x", ""},
		needed{"b", "late:x x:late", "late x", "late x", "b:late,x late:late,x x:late,x", ""})
}

// TestUsesOfStepsComeToAgain: a run that comes to its steps time and again, and then is spent.
func TestUsesOfStepsComeToAgain(t *testing.T) {
	w := made(
		thing("b", 1, end("B")), thing("c", 1, end("C")), thing("d", 1, end("D")),
		thing("round", 1, asks(1, "b"), asks(2, "c"), impl.Step{Asks: []string{"b"}, Cases: []impl.Case{{Text: "no", Goto: 3}}, Fall: 3}, asks(4, "d"), end("R")),
		thing("top", 1, catches(1, "round"), end("T")))
	s := impl.Start(w, []string{"top"})
	checkNeeded(t, w, s,
		needed{"top", "top:round", "", "", "round:top", ""},
		needed{"round", "round:b top:round", "", "", "b:round,top round:top", ""},
		needed{"b", "top:round", "", "", "b:round,top round:top", ""},
		needed{"round", "round:c top:round", "", "", "b:round,top c:round,top round:top", ""},
		needed{"c", "top:round", "", "", "b:round,top c:round,top round:top", ""},
		needed{"round", "top:round", "", "", "b:round,top c:round,top round:top", ""},
		// At its first step again, whose answer is there already.
		needed{"round", "top:round", "", "", "b:round,top c:round,top round:top", ""})
	// It never came to the step that asks for d.
	s = impl.Order(w, []string{"top"}, nil).State
	checkNeeded(t, w, s, needed{"top", "", "", "", "b:round,top c:round,top round:top", "round:round"})
	if impl.Stuck(w, s) != nil || runIn(s, "round").Text != "spent" {
		t.Error(tellState(s))
	}
}

// TestUsesHangOnWhatWasComeTo: an answer leads past a step, and what that would have asked for has no users.
func TestUsesHangOnWhatWasComeTo(t *testing.T) {
	choice := impl.Step{Asks: []string{"x"}, Cases: []impl.Case{{Text: "X()", Goto: 1}}, Else: 2, Fall: 3}
	tail := []impl.Step{asks(4, "p"), asks(4, "q"), asks(4, "r"), end("E")}
	w := made(thing("a", 1, append([]impl.Step{choice}, tail...)...), thing("p", 1, end("P")), thing("q", 1, end("Q")), thing("r", 1, end("R")), thing("x", 1, end("X")))
	uses := func(x impl.Step) string {
		changed, code := impl.PutNode(w, thing("x", 1, x))
		if code != 0 {
			t.Fatal(code)
		}
		return tellUses(changed, impl.Order(changed, []string{"a"}, nil).State)
	}
	checkText(t, "case", uses(end("X")), "p:a x:a")
	checkText(t, "else", uses(end("Y")), "q:a x:a")
	checkText(t, "fall", uses(bad("X")), "r:a x:a")
}

// wait is a thing that asks for names and then ends well.
func wait(name string, names ...string) impl.Node { return thing(name, 1, asks(1, names...), end("")) }

func TestCircleOfOneSize(t *testing.T) {
	for _, c := range []struct {
		what, roots, circle, stuck string
		w                          impl.Web
	}{
		{"pairs", "r", "c d", "c d p q r", made(wait("r", "q", "p", "c"), wait("c", "d"), wait("d", "c"), wait("p", "q"), wait("q", "p"))},
		{"one pair of two", "q", "p q", "p q", made(wait("r", "q", "c"), wait("c", "d"), wait("d", "c"), wait("p", "q"), wait("q", "p"))},
		{"the second name", "f", "a b e", "a a1 b c d e f", made(wait("a", "d", "c", "b"), wait("b", "e"), wait("c", "f"), wait("d", "a1"), wait("a1", "a"), wait("e", "a"), wait("f", "a"))},
		{"the third name", "a", "a b c", "a a2 b c e", made(wait("a", "b"), wait("b", "e", "c", "a2"), wait("c", "a"), wait("e", "a"), wait("a2", "e"))},
		{"the least name in the middle", "Z aa", "a ab aa", "Z a aa ab", made(wait("aa", "a"), wait("a", "ab"), wait("ab", "aa"), wait("Z", "ab"))},
		{"a lesser name in a longer one", "a", "x y", "a b c x y", made(wait("a", "b"), wait("b", "c"), wait("c", "a", "x"), wait("x", "y"), wait("y", "x"))},
		// Both ways round: the lesser name comes second.
		{"three both ways", "c", "a b", "a b c", made(wait("a", "b", "c"), wait("b", "a", "c"), wait("c", "a", "b"))},
		{"four round, and a way across", "d", "a c d", "a b c d", made(wait("a", "b", "c"), wait("b", "c"), wait("c", "d"), wait("d", "a"))},
		{"selves", "h", "g", "g h", made(wait("g", "h", "g"), wait("h", "g", "h"))},
	} {
		for _, picks := range [][]int{nil, {1}, {5, 3, 2}} {
			s := impl.Order(c.w, strings.Fields(c.roots), picks).State
			checkNames(t, c.what, impl.Circle(c.w, s), c.circle)
			checkNames(t, c.what+": stuck", impl.Stuck(c.w, s), c.stuck)
			checkNames(t, c.what+": told", impl.Told(c.w, s).Chain, c.circle)
		}
	}
}

// TestCircleThatNoRootWaitsFor: what has no run is in no circle; what a root leads to is, though the root waits for none of it.
func TestCircleThatNoRootWaitsFor(t *testing.T) {
	w := made(wait("a", "b"), wait("b", "c"), wait("c", "d"), wait("d", "e"), wait("e", "d"), thing("o", 1, end("O")), wait("x", "y"), wait("y", "x"))
	check := func(roots, waits, circle, stuck string) {
		t.Helper()
		s := impl.Order(w, strings.Fields(roots), nil).State
		checkText(t, roots, tellWaits(w, s), waits)
		checkNames(t, roots+": circle", impl.Circle(w, s), circle)
		checkNames(t, roots+": stuck", impl.Stuck(w, s), stuck)
	}
	check("o", "", "", "")
	check("o gone", "", "", "")
	check("a o", "a:b b:c c:d d:e e:d", "d e", "a b c d e")
	check("o y", "x:y y:x", "x y", "x y")
	check("x a", "a:b b:c c:d d:e e:d x:y y:x", "d e", "a b c d e x y")
}

func TestStuckIsNotAllThatWaits(t *testing.T) {
	// l waits, and may still end; m waits for l and for the circle.
	w := made(wait("k", "l"), wait("l", "o"), wait("m", "l", "x"), thing("o", 1, end("O")), wait("x", "y"), wait("y", "x"))
	s := doAll(w, impl.Start(w, []string{"k", "m"}), "k l m x y")
	checkText(t, "waits", tellWaits(w, s), "k:l l:o m:l,x x:y y:x")
	checkNames(t, "stuck", impl.Stuck(w, s), "m x y")
	checkNames(t, "ready", impl.Ready(w, s), "o")
	s = doAll(w, s, "o l k")
	checkText(t, "waits", tellWaits(w, s), "m:x x:y y:x")
	checkNames(t, "stuck", impl.Stuck(w, s), "m x y")
}

func TestNeedsOfTheMostThings(t *testing.T) {
	const most = impl.MaxNodes
	names := make1(most, nameNo)
	all := strings.Join(names, " ")
	great := impl.Web{Nodes: make1(most, func(i int) impl.Node { return wait(nameNo(i), nameNo((i+1)%most)) })}
	s := impl.Order(great, []string{nameNo(30)}, nil).State
	checkNames(t, "circle", impl.Circle(great, s), all)
	checkNames(t, "stuck", impl.Stuck(great, s), all)
	for i, name := range names {
		checkNames(t, name, impl.Waits(great, s, name), nameNo((i+1)%most))
		checkNames(t, name, impl.Uses(great, s, name), all)
		checkNames(t, name, impl.Why(great, s, name), "")
	}
	// One unit ahead of the last there is no circle yet.
	s = doAll(great, impl.Start(great, names[:1]), strings.Join(names[:most-1], " "))
	checkNames(t, "no circle yet", append(impl.Circle(great, s), impl.Stuck(great, s)...), "")
	checkNames(t, "uses", impl.Uses(great, s, names[most-1]), strings.Join(names[:most-1], " "))
	checkNames(t, "uses", impl.Uses(great, s, names[0]), "")
	// Backwards, each also waits for four behind it.
	back := impl.Web{Nodes: make1(most, func(i int) impl.Node {
		return wait(nameNo(i), make1(5, func(k int) string { return nameNo((i + most - 1 - k) % most) })...)
	})}
	s = impl.Order(back, []string{nameNo(7)}, []int{3, 1}).State
	checkNames(t, "back", impl.Circle(back, s), strings.Join(make1(most/5, func(i int) string { return nameNo((most - 5*i) % most) }), " "))
	checkNames(t, "back: stuck", impl.Stuck(back, s), all)
	// All wait for the last, which waits for itself.
	star := impl.Web{Nodes: make1(most, func(i int) impl.Node { return wait(nameNo(i), nameNo(min(i+1, most-1)), "gone") })}
	s = impl.Order(star, names[:1], nil).State
	checkNames(t, "star", impl.Circle(star, s), nameNo(most-1))
	checkNames(t, "star: stuck", impl.Stuck(star, s), all)
	checkNames(t, "star: uses", impl.Uses(star, s, "gone"), all)
	checkNames(t, "star: uses", impl.Uses(star, s, nameNo(20)), strings.Join(names[:20], " "))
}

// TestNeedsOfStatesThatAreNotValid: the state has something to tell of each; with one thing changed there is nothing.
func TestNeedsOfStatesThatAreNotValid(t *testing.T) {
	w := made(wait("a", "b"), wait("b", "a", "c"), wait("c", "f"), thing("f", 1, bad("F")))
	s := impl.Order(w, []string{"a", "gone"}, nil).State
	checkNeeded(t, w, s, needed{"a", "a:b b:a", "a b", "a b", "a:a,b b:a,b c:a,b f:a,b,c", "c:c,f f:f"})
	checkSpoilt(t, w, s,
		spoilt{"no roots", func(s *impl.State) { s.Roots = nil }},
		spoilt{"a root that is no name", func(s *impl.State) { s.Roots = []string{"a", "-"} }},
		spoilt{"a root without a run", func(s *impl.State) { s.Roots = []string{"gone"} }},
		spoilt{"a run less", func(s *impl.State) { s.Runs = s.Runs[:3] }},
		spoilt{"a run twice", func(s *impl.State) { s.Runs = append(s.Runs, s.Runs[3]) }},
		spoilt{"not ascending", func(s *impl.State) { s.Runs[0], s.Runs[1] = s.Runs[1], s.Runs[0] }},
		spoilt{"another place", run(0, func(r *impl.Run) { r.At = 1 })},
		spoilt{"one unit more", run(1, func(r *impl.Run) { r.Visits++ })},
		spoilt{"failed of itself", run(2, func(r *impl.Run) { r.Text = "spent" })},
		spoilt{"failed because of another", run(2, func(r *impl.Run) { r.Text = "below gone" })},
		spoilt{"failed well", run(3, func(r *impl.Run) { r.Fail = false })},
		spoilt{"a text", run(3, func(r *impl.Run) { r.Texts = []string{""} })})
	wrong := broken(w, 3)
	checkRefused(t, "a web that is not valid", wrong, s)
	checkRefused(t, "another web", made(w.Nodes[:3]...), s)
	checkRefused(t, "nothing", w, impl.State{})
}

func TestNeedsAreNewMemory(t *testing.T) {
	r := rand.New(rand.NewSource(17))
	for range 20 {
		size := 2 + r.Intn(6)
		w, roots := roomyWeb(someWeb(r, size)), someRoots(r, size)
		s := impl.Start(w, roots)
		for {
			s = roomyState(s)
			wrong := spoil(r, s, s)
			checkFresh(t, "circle", func() any { return impl.Circle(w, s) }, w, s)
			checkFresh(t, "stuck", func() any { return impl.Stuck(w, s) }, w, s)
			for _, name := range append(make1(size, nameNo), "gone") {
				checkFresh(t, "waits", func() any { return impl.Waits(w, s, name) }, w, s, name)
				checkFresh(t, "uses", func() any { return impl.Uses(w, s, name) }, w, s, name)
				checkFresh(t, "why", func() any { return impl.Why(w, s, name) }, w, s, name)
			}
			name := nameNo(r.Intn(size))
			checkFresh(t, "of a state that is not valid", func() any {
				return [][]string{impl.Waits(w, wrong, name), impl.Uses(w, wrong, name), impl.Why(w, wrong, name), impl.Circle(w, wrong), impl.Stuck(w, wrong)}
			}, w, wrong, name)
			ready := impl.Ready(w, s)
			if len(ready) == 0 {
				break
			}
			s = impl.Do(w, s, ready[r.Intn(len(ready))])
		}
	}
}

// TestNeedsAnswerTheSameEachTime: a map is gone through in another order each time.
func TestNeedsAnswerTheSameEachTime(t *testing.T) {
	r := rand.New(rand.NewSource(18))
	for range 10 {
		w, roots := knot(r, 20), someRoots(r, 20)
		s := impl.Order(w, roots, nil).State
		all := func() string {
			return strings.Join(slices.Concat(impl.Circle(w, s), impl.Stuck(w, s)), " ") + tellWaits(w, s) + tellUses(w, s) + tellWhy(w, s)
		}
		first := all()
		for range 10 {
			if again := all(); again != first {
				t.Fatalf("%s, and then %s", first, again)
			}
		}
	}
}
