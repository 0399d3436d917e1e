package tests

import (
	"fmt"
	"reflect"
	"slices"
	"strings"
	"testing"

	"loop.example/kilnweb/impl"
)

// asks is a step that asks for names, goes on at the next place and ends if one has failed.
func asks(next int, names ...string) impl.Step {
	return impl.Step{Asks: names, Else: next, Fall: -1}
}

// catches is a step that asks for names and goes on at the next place, whether or not one has failed.
func catches(next int, names ...string) impl.Step {
	return impl.Step{Asks: names, Else: next, Fall: next}
}

func thing(name string, cost int, steps ...impl.Step) impl.Node {
	return impl.Node{Name: name, Action: impl.Action{Cost: cost, Steps: steps}}
}

// made is the web of things, whatever order they are told in.
func made(things ...impl.Node) impl.Web {
	slices.SortFunc(things, func(a, b impl.Node) int { return strings.Compare(a.Name, b.Name) })
	return impl.Web{Nodes: things}
}

// tell writes an outcome out, the empty list as the nil list.
func tell(o impl.Outcome) string {
	s := fmt.Sprintf("%d %d %d", o.Code, o.Units, o.Cost)
	for _, r := range o.Results {
		mark := "?"
		switch {
		case r.Over && r.Fail:
			mark = "!"
		case r.Over:
			mark = "="
		case r.Fail:
			mark = "?!"
		}
		s += " " + r.Name + mark + r.Text
	}
	for _, name := range o.Chain {
		s += " >" + name
	}
	return s
}

type cleanCase struct {
	roots string
	want  string
}

func checkClean(t *testing.T, w impl.Web, cases ...cleanCase) {
	t.Helper()
	if code := impl.CheckWeb(w); code != 0 {
		t.Fatalf("the web is not valid: %d", code)
	}
	for _, c := range cases {
		if got := tell(impl.Clean(w, strings.Fields(c.roots))); got != c.want {
			t.Errorf("%s: %s, not %s", c.roots, got, c.want)
		}
	}
}

func TestCleanRunsAThingOnce(t *testing.T) {
	w := made(
		thing("a", 2, asks(1, "b", "c"), end("A")),
		thing("b", 3, asks(1, "d"), end("B")),
		thing("c", 5, asks(1, "d", "b"), end("C")),
		thing("d", 7, end("D")),
		thing("unasked", 20, end("U")))
	checkClean(t, w,
		cleanCase{"d", "0 1 7 d=D()"},
		cleanCase{"b", "0 3 13 b=B(D())"},
		cleanCase{"a", "0 7 27 a=A(B(D()),C(D(),B(D())))"},
		cleanCase{"d a c", "0 7 27 d=D() a=A(B(D()),C(D(),B(D()))) c=C(D(),B(D()))"},
		cleanCase{"c a d", "0 7 27 c=C(D(),B(D())) a=A(B(D()),C(D(),B(D()))) d=D()"},
		cleanCase{"unasked d", "0 2 27 unasked=U() d=D()"})
}

func TestCleanAsksWhatHangsOnAnAnswer(t *testing.T) {
	choice := func(on int, names ...string) impl.Step {
		return impl.Step{Asks: names, On: on, Cases: []impl.Case{{Text: "X()", Goto: 1}, {Text: "Y()", Goto: 2}, {Text: "X()", Goto: 3}}, Else: 3, Fall: -1}
	}
	tail := []impl.Step{asks(3, "p"), asks(3, "q"), end("E")}
	w := made(
		thing("first", 1, append([]impl.Step{choice(0, "x", "y")}, tail...)...),
		thing("second", 1, append([]impl.Step{choice(1, "x", "y")}, tail...)...),
		thing("third", 1, append([]impl.Step{choice(2, "x", "y", "p")}, tail...)...),
		thing("silent", 1, impl.Step{Cases: []impl.Case{{Text: "", Goto: 1}}, Else: 2, Fall: 1}, bad("wrong"), end("S")),
		thing("x", 1, end("X")), thing("y", 1, end("Y")),
		thing("p", 10, end("P")), thing("q", 20, end("Q")))
	checkClean(t, w,
		cleanCase{"first", "0 6 15 first=E(X(),Y(),P())"},
		cleanCase{"second", "0 6 25 second=E(X(),Y(),Q())"},
		cleanCase{"third", "0 5 14 third=E(X(),Y(),P())"},
		cleanCase{"silent", "0 2 2 silent=S()"})
}

func TestCleanFailures(t *testing.T) {
	w := made(
		thing("bad", 2, bad("B")),
		thing("good", 3, end("G")),
		thing("badly", 1, asks(1, "good"), bad("L")),
		thing("below", 1, asks(1, "good", "gone", "bad"), end("never")),
		thing("deeper", 1, asks(1, "below"), end("never")),
		thing("order", 1, asks(1, "bad", "below", "gone"), end("never")),
		thing("caught", 1, catches(1, "bad", "good", "gone", "deeper"), end("C")),
		thing("fall", 1, impl.Step{Asks: []string{"good", "bad"}, Cases: []impl.Case{{Text: "G()", Goto: 1}}, Else: 1, Fall: 2}, bad("case"), asks(3, "good"), end("F")),
		thing("failtext", 1, impl.Step{Asks: []string{"bad"}, Cases: []impl.Case{{Text: "B()", Goto: 1}}, Else: 1, Fall: 2}, end("case"), bad("fell")),
		thing("later", 1, catches(1, "bad", "good"), asks(2, "badly"), end("never")))
	checkClean(t, w,
		cleanCase{"bad", "0 1 2 bad!B()"},
		cleanCase{"badly", "0 3 5 badly!L(G())"},
		cleanCase{"below", "0 4 7 below!below gone"},
		cleanCase{"deeper", "0 6 9 deeper!below below"},
		cleanCase{"order", "0 6 9 order!below bad"},
		cleanCase{"caught", "0 8 11 caught=C(G())"},
		cleanCase{"fall", "0 5 8 fall=F(G(),G())"},
		cleanCase{"failtext", "0 3 4 failtext!fell()"},
		cleanCase{"later", "0 7 10 later!below badly"},
		cleanCase{"bad good", "0 2 5 bad!B() good=G()"})
}

func TestCleanNamesThatAreNoneOfTheWeb(t *testing.T) {
	long := rep(impl.MaxName)
	w := made(
		thing("a", 1, asks(1, "gone"), end("A")),
		thing("b", 1, catches(1, "gone", "other"), end("B")),
		thing("c", 1, asks(1, long), end("C")))
	checkClean(t, w,
		cleanCase{"gone", "0 0 0 gone!no gone"},
		cleanCase{"a", "0 2 2 a!below gone"},
		cleanCase{"b", "0 2 2 b=B()"},
		cleanCase{"c " + long, "0 2 2 c!below " + long + " " + long + "!no " + long},
		cleanCase{"gone b other a", "0 4 4 gone!no gone b=B() other!no other a!below gone"})
	checkClean(t, impl.Web{}, cleanCase{"b a", "0 0 0 b!no b a!no a"})
}

func TestCleanTextsStandStepByStep(t *testing.T) {
	w := made(
		thing("a", 1, asks(2, "z", "m"), end("A"), catches(3, "gone", "b"), asks(4), asks(1, "m", "z")),
		thing("b", 1, end("B")), thing("m", 1, end("M")), thing("z", 1, end("Z")))
	checkClean(t, w, cleanCase{"a", "0 8 8 a=A(Z(),M(),B(),M(),Z())"})
}

// steps gives so many steps, each of which goes on at the next, without the last.
func steps(n int, last ...impl.Step) []impl.Step {
	return append(make1(n, func(i int) impl.Step { return asks(i + 1) }), last...)
}

func TestCleanSpent(t *testing.T) {
	const most = impl.MaxVisits
	w := made(
		thing("just", 2, steps(most-1, end("J"))...),
		thing("justbad", 2, steps(most-1, bad("J"))...),
		thing("justbelow", 2, steps(most-2, asks(0, "gone"))...),
		thing("more", 3, steps(most-1, asks(0, "b"))...),
		thing("morebelow", 3, steps(most-1, asks(0, "gone"))...),
		thing("moreself", 3, steps(most-1, asks(0, "moreself"))...),
		thing("loop", 5, asks(0)),
		thing("again", 1, asks(1, "b"), asks(0, "c", "b")),
		thing("below", 1, asks(1, "loop"), end("never")),
		thing("caught", 1, catches(1, "loop", "b"), end("C")),
		thing("b", 7, end("B")), thing("c", 1, end("C")))
	checkClean(t, w,
		cleanCase{"just", "0 20 40 just=J()"},
		cleanCase{"justbad", "0 20 40 justbad!J()"},
		cleanCase{"justbelow", "0 20 40 justbelow!below gone"},
		cleanCase{"more", "0 21 67 more!spent"},
		cleanCase{"morebelow", "0 20 60 morebelow!spent"},
		cleanCase{"moreself", "1 20 60 moreself? >moreself"},
		cleanCase{"loop", "0 20 100 loop!spent"},
		cleanCase{"again", "0 22 28 again!spent"},
		cleanCase{"below", "0 22 102 below!below loop"},
		cleanCase{"caught", "0 23 109 caught=C(B())"},
		cleanCase{"loop again", "0 42 128 loop!spent again!spent"})
}

func TestCleanRoots(t *testing.T) {
	w := webOfSize(impl.MaxNodes)
	most := make1(impl.MaxRoots, nameNo)
	got := impl.Clean(w, most)
	if got.Code != 0 || got.Units != impl.MaxRoots || got.Cost != impl.MaxRoots || len(got.Chain) != 0 {
		t.Errorf("%s", tell(got))
	}
	for i, name := range most {
		if got.Results[i] != (impl.Result{Name: name, Over: true, Text: "()"}) {
			t.Errorf("%v", got.Results[i])
		}
	}
	for i, roots := range [][]string{
		nil, {}, {""}, {"-"}, {"a00", "a,b"}, {"a00", "a00"}, {"a00", "gone", "gone"}, {"gone", "a00", "gone"},
		make1(impl.MaxRoots+1, nameNo), make([]string, impl.MaxRoots+1), make([]string, 100000),
	} {
		checkNothing(t, fmt.Sprint("roots ", i), impl.Clean(w, roots))
	}
	for _, name := range badNames {
		checkNothing(t, name, impl.Clean(w, []string{name}))
		checkNothing(t, name, impl.Clean(w, []string{"a00", name}))
	}
	for _, name := range goodNames {
		if got := tell(impl.Clean(w, []string{name})); got != "0 0 0 "+name+"!no "+name {
			t.Errorf("%q: %s", name, got)
		}
	}
}

func TestCleanRefusesWebs(t *testing.T) {
	for i, w := range []impl.Web{
		webOfSize(impl.MaxNodes + 1), web("-"), web("a", "a"), web("b", "a"), broken(web("a", "b"), 1),
		made(thing("a", 1, asks(1))), made(thing("a", 1, asks(0, "b", "b"))), {Nodes: make([]impl.Node, 1)},
	} {
		checkNothing(t, fmt.Sprint("web ", i), impl.Clean(w, []string{"a"}))
		checkNothing(t, fmt.Sprint("web ", i), impl.Clean(w, []string{"gone"}))
		checkNothing(t, fmt.Sprint("web ", i), impl.Clean(w, nil))
	}
}

func checkNothing(t *testing.T, what string, o impl.Outcome) {
	t.Helper()
	if o.Code != 9 || len(o.Results) != 0 || len(o.Chain) != 0 || o.Units != 0 || o.Cost != 0 {
		t.Errorf("%s: %s", what, tell(o))
	}
}

// TestCleanLongTexts: what comes out has just as many bytes as a text may have, or one more.
func TestCleanLongTexts(t *testing.T) {
	most := rep(impl.MaxGive)
	leaf := most + "()"
	wide := asks(1, "l1", "l2", "l3", "l4", "l5")
	w := made(
		thing("just", 1, wide, asks(2, "x"), end(most)),
		thing("more", 1, wide, asks(2, "xx"), end(most)),
		thing("user", 1, asks(1, "just", "more"), end("U")),
		thing("case", 1, impl.Step{Asks: []string{"just"}, Cases: []impl.Case{{Text: most + "(" + strings.Repeat(leaf+",", 5) + "x())", Goto: 1}}, Else: 2, Fall: -1}, end("found"), bad("lost")),
		thing("l1", 1, end(most)), thing("l2", 1, end(most)), thing("l3", 1, end(most)), thing("l4", 1, end(most)), thing("l5", 1, end(most)),
		thing("x", 1, end("x")), thing("xx", 1, end("xx")))
	just := most + "(" + strings.Repeat(leaf+",", 5) + "x())"
	more := most + "(" + strings.Repeat(leaf+",", 5) + "xx())"
	if len(just) != impl.MaxText {
		t.Fatal(len(just))
	}
	checkClean(t, w,
		cleanCase{"just more", "0 13 13 just=" + just + " more=" + summed(more)},
		cleanCase{"user", "0 15 15 user=" + summed("U("+just+","+summed(more)+")")},
		cleanCase{"case", "0 11 11 case=" + summed("found("+just+")")})
}

func TestCleanCircles(t *testing.T) {
	w := made(
		thing("self", 1, asks(1, "b", "self"), end("S")),
		thing("b", 1, end("B")),
		// Two that wait for each other, and ways to them.
		thing("x", 2, asks(1, "y", "b"), end("X")),
		thing("y", 3, asks(1, "gone2", "x"), end("Y")),
		thing("to", 1, asks(1, "x"), end("T")),
		thing("toto", 1, asks(1, "b"), asks(2, "to", "b"), end("T")),
		// Three, the least name in the middle.
		thing("k3", 1, asks(1, "k1"), end("K")), thing("k1", 1, asks(1, "k2"), end("K")), thing("k2", 1, asks(1, "k3"), end("K")),
		// A thing that is in a circle of three and in one of two, the greater names.
		thing("m1", 1, asks(1, "m2"), end("M")), thing("m2", 1, asks(1, "m3", "m9"), end("M")), thing("m3", 1, asks(1, "m1"), end("M")), thing("m9", 1, asks(1, "m2"), end("M")),
		thing("all", 1, asks(1, "toto", "k2", "m1"), end("A")),
		thing("ends", 1, catches(1, "b", "gone"), end("E")))
	checkClean(t, w,
		cleanCase{"self", "1 2 2 self? >self"},
		cleanCase{"x", "1 3 6 x? >x >y"},
		cleanCase{"y", "1 3 6 y? >x >y"},
		cleanCase{"to", "1 4 7 to? >x >y"},
		cleanCase{"toto b", "1 6 9 toto? b=B() >x >y"},
		cleanCase{"k3", "1 3 3 k3? >k1 >k2 >k3"},
		cleanCase{"k3 gone k1", "1 3 3 k3? gone!no gone k1? >k1 >k2 >k3"},
		cleanCase{"m1", "1 4 4 m1? >m2 >m9"},
		cleanCase{"ends m3", "1 7 7 ends=E(B()) m3? >m2 >m9"},
		cleanCase{"k1 y", "1 6 9 k1? y? >x >y"},
		cleanCase{"all", "1 14 17 all? >m2 >m9"},
		cleanCase{"all self", "1 15 18 all? self? >self"},
		// The circles are there, but nobody asks for them.
		cleanCase{"ends", "0 3 3 ends=E(B())"})
}

// TestCleanCirclesOfOneSize: the list that is less at the first place where two differ.
func TestCleanCirclesOfOneSize(t *testing.T) {
	wait := func(name string, names ...string) impl.Node { return thing(name, 1, asks(1, names...), end("")) }
	pairs := made(wait("r", "q", "p", "c"), wait("c", "d"), wait("d", "c"), wait("p", "q"), wait("q", "p"))
	checkClean(t, pairs,
		cleanCase{"r", "1 5 5 r? >c >d"},
		cleanCase{"q", "1 2 2 q? >p >q"},
		cleanCase{"q d", "1 4 4 q? d? >c >d"})
	second := made(wait("a", "d", "c", "b"), wait("b", "e"), wait("c", "f"), wait("d", "a1"), wait("a1", "a"), wait("e", "a"), wait("f", "a"))
	checkClean(t, second, cleanCase{"f", "1 7 7 f? >a >b >e"})
	third := made(wait("a", "b"), wait("b", "e", "c", "a2"), wait("c", "a"), wait("e", "a"), wait("a2", "e"))
	checkClean(t, third, cleanCase{"a", "1 5 5 a? >a >b >c"})
	// The least name of a circle stands first, though another one of it was asked for first.
	prefix := made(wait("aa", "a"), wait("a", "ab"), wait("ab", "aa"), wait("Z", "ab"))
	checkClean(t, prefix, cleanCase{"Z aa", "1 4 4 Z? aa? >a >ab >aa"})
	selves := made(wait("g", "h", "g"), wait("h", "g", "h"))
	checkClean(t, selves, cleanCase{"h", "1 2 2 h? >g"})
}

func TestCleanWaitsForNoneThatIsOver(t *testing.T) {
	w := made(
		// It has asked for y ahead, but waits for z alone now.
		thing("x", 1, catches(1, "y"), asks(2, "z", "y", "gone"), end("X")),
		thing("y", 1, asks(1, "w"), bad("Y")), thing("w", 1, end("W")),
		thing("z", 1, asks(1, "w"), asks(2, "x"), end("Z")))
	checkClean(t, w, cleanCase{"x", "1 7 7 x? >x >z"})
}

func TestCleanGreatCircle(t *testing.T) {
	const most = impl.MaxNodes
	great := impl.Web{Nodes: make1(most, func(i int) impl.Node {
		return thing(nameNo(i), 20, asks(1, nameNo((i+1)%most)), end(""))
	})}
	got := impl.Clean(great, []string{nameNo(30)})
	if got.Code != 1 || got.Units != most || got.Cost != 20*most || !slices.Equal(got.Chain, make1(most, nameNo)) {
		t.Errorf("%s", tell(got))
	}
	// Backwards, each also waits for four behind it.
	back := impl.Web{Nodes: make1(most, func(i int) impl.Node {
		names := make1(5, func(k int) string { return nameNo((i + most - 1 - k) % most) })
		return thing(nameNo(i), 1, asks(1, names...), end(""))
	})}
	got = impl.Clean(back, []string{nameNo(7)})
	want := make1(most/5, func(i int) string { return nameNo((most - 5*i) % most) })
	if got.Code != 1 || got.Units != most || !slices.Equal(got.Chain, want) {
		t.Errorf("%s", tell(got))
	}
}

func TestCleanMostUnits(t *testing.T) {
	const most = impl.MaxNodes
	w := impl.Web{Nodes: make1(most, func(i int) impl.Node {
		names := make1(min(5, most-1-i), func(k int) string { return nameNo(i + 1 + k) })
		return thing(nameNo(i), 20, catches(0, names...))
	})}
	got := impl.Clean(w, []string{nameNo(0)})
	if tell(got) != fmt.Sprintf("0 %d %d a00!spent", most*20, most*400) {
		t.Errorf("%s", tell(got))
	}
}

func TestCleanAnswersAreNewMemory(t *testing.T) {
	w := roomyWeb(made(
		thing("a", 1, asks(1, "b", "x"), end("A")), thing("b", 1, end("B")), thing("bad", 1, bad("")),
		thing("below", 1, asks(1, "bad"), end("")), thing("l1", 1, asks(0)), thing("l2", 1, asks(0)),
		thing("x", 1, asks(1, "y"), end("X")), thing("y", 1, catches(1, "b"), asks(2, "x"), end("Y"))))
	for _, names := range []string{"a", "b", "x y", "gone a bad below l1 l2 b", "l1", "bad below l1 l2 gone"} {
		roots := roomy(strings.Fields(names), "spare")
		before := snapshot(w, roots)
		got := impl.Clean(w, roots)
		if !reflect.DeepEqual(before, snapshot(w, roots)) {
			t.Errorf("%s: an argument was written into", names)
		}
		checkMemory(t, names, got, w, roots)
	}
}

func TestCleanOfSharedLists(t *testing.T) {
	// Steps, asks and texts of the web are one memory; what comes out is not.
	shared := asks(1, "y", "x")
	w := roomyWeb(impl.Web{Nodes: []impl.Node{thing("x", 1, shared, end("E")), thing("y", 1, shared, end("E"))}})
	w.Nodes[1].Action.Steps = w.Nodes[0].Action.Steps
	roots := []string{w.Nodes[0].Action.Steps[0].Asks[0], w.Nodes[0].Name}
	got := impl.Clean(w, roots)
	if tell(got) != "1 2 2 y? x? >x" {
		t.Errorf("%s", tell(got))
	}
	checkMemory(t, "shared", got, w, roots)
}
