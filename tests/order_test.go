package tests

import (
	"fmt"
	"math"
	"math/rand"
	"reflect"
	"slices"
	"strings"
	"testing"

	"loop.example/kilnweb/impl"
)

// pickBy gives the choice that the picks say, one call for each thing that is done.
func pickBy(picks []int) func(ready int) int {
	i := -1
	return func(ready int) int {
		i++
		if len(picks) == 0 || picks[i%len(picks)] < 0 {
			return 0
		}
		return picks[i%len(picks)] % ready
	}
}

func TestOrderPicks(t *testing.T) {
	leaf := func(name string) impl.Node { return thing(name, 1, end(name)) }
	w := made(leaf("b"), leaf("c"), leaf("d"), leaf("e"), thing("a", 1, asks(1, "d", "e", "b", "c"), end("A")))
	for _, c := range []struct {
		picks []int
		want  string
	}{
		{nil, "a b c d e a"},
		{[]int{}, "a b c d e a"},
		{[]int{0}, "a b c d e a"},
		{[]int{1}, "a c d e b a"},
		{[]int{2}, "a d e b c a"},
		{[]int{3}, "a e b d c a"},
		{[]int{4}, "a b d c e a"},
		{[]int{-1}, "a b c d e a"},
		{[]int{math.MinInt}, "a b c d e a"},
		{[]int{-1, 1}, "a c b e d a"},
		{[]int{0, 1}, "a c b e d a"},
		{[]int{1, 0}, "a b d c e a"},
		// The picks begin anew with the fourth thing that is done.
		{[]int{0, 3, 2}, "a e d b c a"},
		{[]int{7, 6, 5, 4, 3, 2}, "a d e b c a"},
		{[]int{0, 3, 2, 1, 0, 0}, "a e d c b a"},
		{[]int{0, 3, 2, 1, 0, 0, 9, 9, 9}, "a e d c b a"},
		{[]int{math.MaxInt}, "a e c d b a"},
	} {
		x := impl.Order(w, []string{"a"}, c.picks)
		if got := strings.Join(x.Done, " "); got != c.want {
			t.Errorf("%v: %s, not %s", c.picks, got, c.want)
		}
		if got := tell(impl.Told(w, x.State)); got != "0 6 6 a=A(d(),e(),b(),c())" {
			t.Errorf("%v: %s", c.picks, got)
		}
	}
}

func TestOrderOfRoots(t *testing.T) {
	w := made(thing("a", 2, asks(1, "b"), end("A")), thing("b", 3, end("B")), thing("loop", 1, asks(0)), thing("self", 1, asks(0, "self")))
	for _, c := range []struct {
		roots string
		picks []int
		done  string
		told  string
	}{
		{"a", nil, "a b a", "0 3 7 a=A(B())"},
		{"b a", nil, "a b a", "0 3 7 b=B() a=A(B())"},
		{"b a", []int{1}, "b a a", "0 3 7 b=B() a=A(B())"},
		{"a gone", nil, "a b a", "0 3 7 a=A(B()) gone!no gone"},
		{"gone", nil, "", "0 0 0 gone!no gone"},
		{"gone", []int{5}, "", "0 0 0 gone!no gone"},
		{"self", nil, "self", "1 1 1 self? >self"},
		{"self b", []int{1}, "self b", "1 2 4 self? b=B() >self"},
		{"loop", nil, strings.TrimSpace(strings.Repeat("loop ", impl.MaxVisits+1)), "0 20 20 loop!spent"},
	} {
		x := impl.Order(w, strings.Fields(c.roots), c.picks)
		if got := strings.Join(x.Done, " "); got != c.done {
			t.Errorf("%s: done %s", c.roots, got)
		}
		if got := tell(impl.Told(w, x.State)); got != c.told {
			t.Errorf("%s: %s", c.roots, got)
		}
	}
}

// somePicks gives picks of many kinds.
func somePicks(r *rand.Rand) []int {
	return make1(r.Intn(30), func(int) int {
		return []int{r.Intn(4), r.Intn(100), -r.Intn(3), math.MaxInt - r.Intn(5), math.MinInt}[r.Intn(5)]
	})
}

// counted says how often a name is in a list.
func counted(list []string, name string) int {
	n := 0
	for _, x := range list {
		if x == name {
			n++
		}
	}
	return n
}

// checkHeart holds a walk against the definition, and its parts against each other.
func checkHeart(t *testing.T, w impl.Web, roots []string, picks []int, got impl.Walk) {
	t.Helper()
	x := worked(w, roots, pickBy(picks))
	if !slices.Equal(got.Done, x.done) {
		t.Fatalf("%v of %v with %v: done %q, not %q", roots, w, picks, got.Done, x.done)
	}
	if want := x.state(roots); tellState(got.State) != tellState(want) {
		t.Fatalf("%v of %v with %v: %s, not %s", roots, w, picks, tellState(got.State), tellState(want))
	}
	if a, b := tell(impl.Told(w, got.State)), tell(impl.Clean(w, roots)); a != b {
		t.Fatalf("%v of %v: told %s, clean %s", roots, w, a, b)
	}
	all := 0
	for _, run := range got.State.Runs {
		units := run.Visits
		if run.Text == "spent" {
			units++
		}
		if counted(got.Done, run.Name) != units {
			t.Fatalf("%v of %v: %s has %d units, done is %q", roots, w, run.Name, run.Visits, got.Done)
		}
		all += units
	}
	if len(got.Done) != all {
		t.Fatalf("%v of %v: more is done than there are units", roots, w)
	}
}

// Promise 4: for all picks the state is the same, what is told of it is Clean, and each thing is done as often as it has units.
func TestPromise4(t *testing.T) {
	r := rand.New(rand.NewSource(12))
	seen := map[string]int{}
	for range 1500 {
		size := 1 + r.Intn(12)
		w, roots := lively(r, size), someRoots(r, size)
		want := tellState(impl.Order(w, roots, nil).State)
		note(seen, impl.Clean(w, roots))
		for i := range 5 {
			picks := somePicks(r)
			if i == 0 {
				picks = nil
			}
			got := impl.Order(w, roots, picks)
			if tellState(got.State) != want {
				t.Fatalf("%v of %v with %v: %s, not %s", roots, w, picks, tellState(got.State), want)
			}
			checkHeart(t, w, roots, picks, got)
		}
	}
	for _, what := range []string{"code 0", "code 1", "spent", "below", "text", "circle of 1", "circle of 2"} {
		if seen[what] < 10 {
			t.Errorf("%s: only %d of these", what, seen[what])
		}
	}
}

// TestPromise4AtTheLimits: webs of actions at the edges of what is valid, and the most units that there can be.
func TestPromise4AtTheLimits(t *testing.T) {
	r := rand.New(rand.NewSource(13))
	for range 150 {
		size := 1 + r.Intn(20)
		w := impl.Web{Nodes: make1(size, func(i int) impl.Node { return impl.Node{Name: nameNo(i), Action: randomAction(r)} })}
		roots, picks := someRoots(r, size), somePicks(r)
		checkHeart(t, w, roots, picks, impl.Order(w, roots, picks))
	}
	const most = impl.MaxNodes
	w := impl.Web{Nodes: make1(most, func(i int) impl.Node {
		names := make1(min(5, most-1-i), func(k int) string { return nameNo(i + 1 + k) })
		return thing(nameNo(i), 20, catches(0, names...))
	})}
	for _, picks := range [][]int{nil, {1}, {7, 3, 100}} {
		roots := []string{nameNo(0)}
		x := impl.Order(w, roots, picks)
		if len(x.Done) != most*(impl.MaxVisits+1) {
			t.Errorf("%d done", len(x.Done))
		}
		checkHeart(t, w, roots, picks, x)
	}
}

// missing says whether a result is not there yet.
func missing(o impl.Outcome) bool {
	return slices.ContainsFunc(o.Results, func(r impl.Result) bool { return !r.Over })
}

// checkProgress: promise 5 in one state, which the model has come to, too.
func checkProgress(t *testing.T, x *jobs, roots []string, s impl.State) {
	t.Helper()
	told, ready, circle := impl.Told(x.web, s), impl.Ready(x.web, s), x.circle()
	want := x.outcome(roots)
	switch {
	case !missing(told):
		want.Code = 0
	case len(ready) > 0:
		want.Code, want.Chain = 2, nil
	case len(circle) > 0:
		want.Code, want.Chain = 1, circle
	default:
		t.Fatalf("nothing is ready, nothing is over, and there is no circle: %s", tellState(s))
	}
	if !slices.Equal(ready, x.ready()) {
		t.Fatalf("%s: ready %q, not %q", tellState(s), ready, x.ready())
	}
	if tell(told) != tell(want) {
		t.Fatalf("%s: told %s, not %s", tellState(s), tell(told), tell(want))
	}
	if last := impl.Order(x.web, roots, nil).State; len(ready) == 0 && tellState(last) != tellState(s) {
		t.Fatalf("nothing is ready in %s, but Order leads to %s", tellState(s), tellState(last))
	}
}

// checkUnit: promise 3 for one thing that was done.
func checkUnit(t *testing.T, w impl.Web, before, after impl.State, name string) {
	t.Helper()
	if !impl.ValidState(w, after) {
		t.Fatalf("not valid behind %s: %s", name, tellState(after))
	}
	if !slices.Equal(before.Roots, after.Roots) {
		t.Fatalf("other roots: %s", tellState(after))
	}
	for _, old := range before.Runs {
		run := runIn(after, old.Name)
		added := run.Visits - old.Visits
		spent := !old.Over && run.Over && run.Fail && run.Text == "spent" && old.Visits == impl.MaxVisits
		switch {
		case old.Name != name && tellRun(run) != tellRun(old):
			t.Fatalf("%s was done, and %s is another: %s", name, old.Name, tellRun(run))
		case old.Name == name && added != 1 && !(added == 0 && spent):
			t.Fatalf("%s was done: %s, and then %s", name, tellRun(old), tellRun(run))
		}
	}
	for _, run := range after.Runs {
		if runIn(before, run.Name).Name == "" && tellRun(run) != tellRun(impl.Run{Name: run.Name}) {
			t.Fatalf("%s was done: a new run that has begun: %s", name, tellRun(run))
		}
	}
}

// Promises 3 and 5 in every state on many ways through many webs.
func TestPromises3And5(t *testing.T) {
	r := rand.New(rand.NewSource(14))
	codes := map[int]int{}
	for range 400 {
		size := 1 + r.Intn(8)
		w, roots := lively(r, size), someRoots(r, size)
		x, s := begun(w, roots), impl.Start(w, roots)
		for {
			if want := tellState(x.state(roots)); tellState(s) != want {
				t.Fatalf("%v: %s, not %s", w, tellState(s), want)
			}
			checkProgress(t, x, roots, s)
			codes[impl.Told(w, s).Code]++
			ready := impl.Ready(w, s)
			for _, name := range append(make1(size, nameNo), "gone") {
				next := impl.Do(w, s, name)
				if !slices.Contains(ready, name) {
					checkState(t, name+" is not ready", next, tellState(s))
					continue
				}
				checkUnit(t, w, s, next, name)
			}
			if len(ready) == 0 {
				break
			}
			name := ready[r.Intn(len(ready))]
			x.do(name)
			s = impl.Do(w, s, name)
		}
	}
	for code, least := range map[int]int{0: 200, 1: 20, 2: 1000} {
		if codes[code] < least {
			t.Errorf("only %d states with code %d", codes[code], code)
		}
	}
}

// TestStatesAnswerTheSameEachTime: a map is gone through in another order each time.
func TestStatesAnswerTheSameEachTime(t *testing.T) {
	r := rand.New(rand.NewSource(15))
	for range 20 {
		w, roots, picks := lively(r, 30), someRoots(r, 30), somePicks(r)
		x := impl.Order(w, roots, picks)
		first := tellState(x.State) + tell(impl.Told(w, x.State)) + fmt.Sprint(x.Done)
		for range 20 {
			y := impl.Order(w, roots, picks)
			if again := tellState(y.State) + tell(impl.Told(w, y.State)) + fmt.Sprint(y.Done); again != first {
				t.Fatalf("%s, and then %s", first, again)
			}
		}
	}
}

// roomyState gives the state with spare room behind the end of each list.
func roomyState(s impl.State) impl.State {
	runs := make1(len(s.Runs), func(i int) impl.Run {
		x := s.Runs[i]
		x.Texts = roomy(x.Texts, "spare")
		return x
	})
	return impl.State{Roots: roomy(s.Roots, "spare"), Runs: roomy(runs, impl.Run{Name: "spare", Texts: []string{"spare"}})}
}

// checkFresh: an answer is new memory, and no argument was written into.
func checkFresh(t *testing.T, what string, call func() any, args ...any) {
	t.Helper()
	before := snapshot(args...)
	got := call()
	if !reflect.DeepEqual(before, snapshot(args...)) {
		t.Errorf("%s: an argument was written into", what)
	}
	checkMemory(t, what, got, args...)
}

func TestStateAnswersAreNewMemory(t *testing.T) {
	r := rand.New(rand.NewSource(16))
	for range 60 {
		size := 1 + r.Intn(8)
		w, roots, picks := roomyWeb(lively(r, size)), roomy(someRoots(r, size), "spare"), roomy(somePicks(r), 7)
		checkFresh(t, "Start", func() any { return impl.Start(w, roots) }, w, roots)
		checkFresh(t, "Order", func() any { return impl.Order(w, roots, picks) }, w, roots, picks)
		s := impl.Start(w, roots)
		for {
			s = roomyState(s)
			checkFresh(t, "Ready", func() any { return impl.Ready(w, s) }, w, s)
			checkFresh(t, "Told", func() any { return impl.Told(w, s) }, w, s)
			checkFresh(t, "ValidState", func() any { return impl.ValidState(w, s) }, w, s)
			checkFresh(t, "Do of nothing", func() any { return impl.Do(w, s, "gone") }, w, s)
			ready := impl.Ready(w, s)
			if len(ready) == 0 {
				break
			}
			name := ready[r.Intn(len(ready))]
			checkFresh(t, "Do", func() any { return impl.Do(w, s, name) }, w, s, name)
			wrong := spoil(r, s, s)
			checkFresh(t, "of a state that is not valid", func() any {
				return []any{impl.Ready(w, wrong), impl.Do(w, wrong, name), impl.Told(w, wrong), impl.ValidState(w, wrong)}
			}, w, wrong)
			s = impl.Do(w, s, name)
		}
	}
}

func TestStatesOfSharedLists(t *testing.T) {
	// Names and texts of web, roots and state are one memory; what comes out is not.
	shared := asks(1, "b")
	w := impl.Web{Nodes: []impl.Node{thing("a", 1, shared, end("E")), thing("b", 1, end("E")), thing("c", 1, shared, end("E"))}}
	roots := []string{w.Nodes[2].Name, w.Nodes[0].Name, shared.Asks[0]}
	checkFresh(t, "Order", func() any { return impl.Order(w, roots, nil) }, w, roots)
	s := impl.Order(w, roots, nil).State
	s.Runs[0].Texts = s.Runs[2].Texts
	s.Roots = []string{s.Runs[0].Name, s.Runs[2].Name}
	if !impl.ValidState(w, s) {
		t.Error("not valid")
	}
	checkFresh(t, "Do", func() any { return impl.Do(w, s, "a") }, w, s)
	checkFresh(t, "Told", func() any { return impl.Told(w, s) }, w, s)
}

func TestWalksDoNotHangOnEachOther(t *testing.T) {
	w := made(thing("a", 1, asks(1, "b"), end("A")), thing("b", 1, end("B")))
	s := impl.Start(w, []string{"a"})
	one, two := impl.Do(w, s, "a"), impl.Do(w, s, "a")
	one.Runs[0].Name, one.Roots[0] = "x", "x"
	if tellState(two) != tellState(impl.Do(w, s, "a")) || tellState(s) != tellState(impl.Start(w, []string{"a"})) {
		t.Error("one state was changed by another")
	}
}
