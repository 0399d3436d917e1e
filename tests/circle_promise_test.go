package tests

import (
	"math/rand"
	"slices"
	"strings"
	"testing"

	"loop.example/kilnweb/impl"
)

// knot gives a web in which nearly nothing ends, and circles of many sizes lie side by side.
func knot(r *rand.Rand, size int) impl.Web {
	return impl.Web{Nodes: make1(size, func(i int) impl.Node {
		if r.Intn(12) == 0 {
			return thing(nameNo(i), 1, impl.Step{End: true, Bad: r.Intn(2) == 0})
		}
		others := slices.DeleteFunc(r.Perm(size), func(k int) bool { return k == i && r.Intn(20) > 0 })
		names := make1(min(len(others), 1+r.Intn(2)), func(k int) string { return nameNo(others[k]) })
		return thing(nameNo(i), 1, catches(1, names...), asks(2, names[max(0, len(names)-1):]...), end(""))
	})}
}

// circles gives all circles among the runs, each begun with its least name.
func (x jobs) circles() [][]string {
	var out [][]string
	var follow func(way []string)
	follow = func(way []string) {
		for _, next := range x.waits(way[len(way)-1]) {
			if next == way[0] {
				out = append(out, slices.Clone(way))
			} else if next > way[0] && !slices.Contains(way, next) {
				follow(append(slices.Clone(way), next))
			}
		}
	}
	for _, name := range x.names() {
		follow([]string{name})
	}
	return out
}

// least gives the shortest of some circles, of several the first.
func least(circles [][]string) []string {
	if len(circles) == 0 {
		return nil
	}
	return slices.MinFunc(circles, func(a, b []string) int {
		if len(a) != len(b) {
			return len(a) - len(b)
		}
		return slices.Compare(a, b)
	})
}

// grown adds names to a list as long as there is one that needs one of the list; it gives them ascending.
func (x jobs) grown(list []string, needs func(name string) []string) []string {
	for more := true; more; {
		more = false
		for _, name := range x.names() {
			isOneOf := func(other string) bool { return slices.Contains(list, other) }
			if !slices.Contains(list, name) && slices.ContainsFunc(needs(name), isOneOf) {
				list = append(list, name)
				more = true
			}
		}
	}
	slices.Sort(list)
	return list
}

func (x jobs) stuck(circles [][]string) []string {
	in := slices.Concat(circles...)
	slices.Sort(in)
	return x.grown(slices.Compact(in), x.waits)
}

func (x jobs) uses(name string) []string {
	asked := func(user string) []string { return x.all[user].asked }
	var first []string
	for _, user := range x.names() {
		if slices.Contains(asked(user), name) {
			first = append(first, user)
		}
	}
	return x.grown(first, asked)
}

// why reads from a run's place and text why it failed.
func (x jobs) why(name string) []string {
	j := x.all[name]
	if j == nil || !j.over || !j.answer.Fail {
		return nil
	}
	ask, because := strings.CutPrefix(j.answer.Text, "below ")
	if !because || j.action.Steps[j.at].End {
		return []string{name}
	}
	if _, found := x.find(ask); !found {
		return []string{name, ask}
	}
	return append([]string{name}, x.why(ask)...)
}

// checkAgainst holds all five functions against the definition.
func checkAgainst(t *testing.T, x *jobs, s impl.State) {
	t.Helper()
	same := func(what string, got, want []string) {
		t.Helper()
		if !slices.Equal(got, want) {
			t.Fatalf("%v, %s: %s %q, not %q", x.web, tellState(s), what, got, want)
		}
	}
	circles := x.circles()
	same("circle", impl.Circle(x.web, s), least(circles))
	same("stuck", impl.Stuck(x.web, s), x.stuck(circles))
	for _, name := range append(make1(len(x.web.Nodes), nameNo), "gone", "-") {
		var waits []string
		if x.all[name] != nil {
			waits = x.waits(name)
		}
		same("waits of "+name, impl.Waits(x.web, s, name), waits)
		same("uses of "+name, impl.Uses(x.web, s, name), x.uses(name))
		same("why of "+name, impl.Why(x.web, s, name), x.why(name))
	}
}

// someWeb gives one of two kinds of webs.
func someWeb(r *rand.Rand, size int) impl.Web {
	if r.Intn(2) == 0 {
		return knot(r, size)
	}
	return lively(r, size)
}

// TestNeedsAgainstTheDefinition: every state on many ways through many webs, and what it has that stays.
func TestNeedsAgainstTheDefinition(t *testing.T) {
	r := rand.New(rand.NewSource(19))
	for range 400 {
		size := 1 + r.Intn(7)
		w, roots := someWeb(r, size), someRoots(r, size)
		x, s := begun(w, roots), impl.Start(w, roots)
		last := impl.Order(w, roots, nil).State
		for {
			checkAgainst(t, x, s)
			for _, name := range impl.Stuck(w, s) {
				if runIn(last, name).Over {
					t.Fatalf("%v: %s is stuck in %s, and over in the end", w, name, tellState(s))
				}
			}
			ready := impl.Ready(w, s)
			if len(ready) == 0 {
				break
			}
			name := ready[r.Intn(len(ready))]
			x.do(name)
			s = impl.Do(w, s, name)
		}
	}
}

// TestNeedsOfRandomActions: webs of actions at the edges of what is valid.
func TestNeedsOfRandomActions(t *testing.T) {
	r := rand.New(rand.NewSource(20))
	for range 60 {
		size := 1 + r.Intn(12)
		w := impl.Web{Nodes: make1(size, func(i int) impl.Node { return impl.Node{Name: nameNo(i), Action: randomAction(r)} })}
		roots, picks := someRoots(r, size), somePicks(r)
		x := worked(w, roots, pickBy(picks))
		checkAgainst(t, &x, impl.Order(w, roots, picks).State)
	}
}

// ledTo gives the names that can be come to from some by what they wait for.
func ledTo(w impl.Web, s impl.State, names []string) []string {
	out := slices.Clone(names)
	for i := 0; i < len(out); i++ {
		for _, next := range impl.Waits(w, s, out[i]) {
			if !slices.Contains(out, next) {
				out = append(out, next)
			}
		}
	}
	return out
}

// Promise 6: with code 1 there is a chain of runs that wait for each other, all of them stuck; with code 0 no root leads to a circle.
func TestPromise6(t *testing.T) {
	r := rand.New(rand.NewSource(21))
	seen := map[string]int{}
	for range 1500 {
		size := 1 + r.Intn(9)
		w, roots := someWeb(r, size), someRoots(r, size)
		got, s := impl.Clean(w, roots), impl.Order(w, roots, somePicks(r)).State
		note(seen, got)
		stuck, circle := impl.Stuck(w, s), impl.Circle(w, s)
		if got.Code == 0 {
			led := ledTo(w, s, roots)
			if slices.ContainsFunc(circle, func(name string) bool { return slices.Contains(led, name) }) || len(got.Chain) != 0 {
				t.Fatalf("%v of %v: all is over, and yet a circle %q", roots, w, circle)
			}
			continue
		}
		if len(got.Chain) == 0 || !slices.Equal(got.Chain, circle) {
			t.Fatalf("%v of %v: chain %q, circle %q", roots, w, got.Chain, circle)
		}
		for i, name := range got.Chain {
			next := got.Chain[(i+1)%len(got.Chain)]
			if !slices.Contains(impl.Waits(w, s, name), next) || !slices.Contains(stuck, name) || slices.Contains(got.Chain[:i], name) {
				t.Fatalf("%v of %v: %q is no circle of runs that are stuck", roots, w, got.Chain)
			}
		}
	}
	for _, what := range []string{"code 0", "code 1", "circle of 1", "circle of 2", "circle of 3", "circle of 4"} {
		if seen[what] < 10 {
			t.Errorf("%s: only %d of these", what, seen[what])
		}
	}
}

// Promise 7: the circle is the first of all shortest ones; stuck are just those that are not over in the end.
func TestPromise7(t *testing.T) {
	r := rand.New(rand.NewSource(22))
	several := 0
	for range 1500 {
		size := 1 + r.Intn(9)
		w, roots := someWeb(r, size), someRoots(r, size)
		x, s := worked(w, roots, r.Intn), impl.Order(w, roots, somePicks(r)).State
		all := x.circles()
		want := least(all)
		if got := impl.Circle(w, s); !slices.Equal(got, want) {
			t.Fatalf("%v of %v: circle %q of %q", roots, w, got, all)
		}
		if slices.ContainsFunc(all, func(c []string) bool { return len(c) == len(want) && !slices.Equal(c, want) }) {
			several++
		}
		notOver := slices.DeleteFunc(x.names(), func(name string) bool { return x.all[name].over })
		if got := impl.Stuck(w, s); !slices.Equal(got, notOver) {
			t.Fatalf("%v of %v: stuck %q, not over %q", roots, w, got, notOver)
		}
	}
	if several < 100 {
		t.Errorf("only %d with several circles of one size", several)
	}
}

// Promise 8: what nobody has asked for changes nothing.
func TestPromise8(t *testing.T) {
	r := rand.New(rand.NewSource(23))
	seen := map[string]int{}
	for range 800 {
		size := 2 + r.Intn(9)
		w, roots := someWeb(r, size), someRoots(r, size)
		s := impl.Order(w, roots, somePicks(r)).State
		want := tell(impl.Clean(w, roots))
		same := func(what string, changed impl.Web, code int) {
			t.Helper()
			if code != 0 {
				t.Fatalf("%s: code %d", what, code)
			}
			if got := tell(impl.Clean(changed, roots)); got != want {
				t.Fatalf("%v of %v, %s: %s, not %s", roots, w, what, got, want)
			}
			if got := impl.Order(changed, roots, nil).State; tellState(got) != tellState(s) {
				t.Fatalf("%v of %v, %s: %s, not %s", roots, w, what, tellState(got), tellState(s))
			}
			seen[strings.Fields(what)[0]]++
		}
		for _, name := range append(make1(size+2, nameNo), "gone", "Z", "zz") {
			wanted := slices.Contains(roots, name) || len(impl.Uses(w, s, name)) > 0
			inWeb := slices.ContainsFunc(w.Nodes, func(n impl.Node) bool { return n.Name == name })
			if hasRun := runIn(s, name).Name != ""; hasRun != (wanted && inWeb) {
				t.Fatalf("%v of %v: %s has a run: %v", roots, w, name, hasRun)
			}
			if wanted {
				continue
			}
			put, code := impl.PutNode(w, impl.Node{Name: name, Action: randomAction(r)})
			if inWeb {
				same("changed "+name, put, code)
				dropped, code := impl.DropNode(w, name)
				same("dropped "+name, dropped, code)
			} else {
				same("put "+name, put, code)
			}
		}
	}
	for _, what := range []string{"changed", "dropped", "put"} {
		if seen[what] < 300 {
			t.Errorf("%s: only %d of these", what, seen[what])
		}
	}
}

// Promise 9: why a thing failed leads to one that failed of itself, and what failed because of a thing is among its users.
func TestPromise9(t *testing.T) {
	r := rand.New(rand.NewSource(24))
	sizes := map[int]int{}
	for range 800 {
		size := 2 + r.Intn(11)
		w, roots := lively(r, size), someRoots(r, size)
		x, s := worked(w, roots, r.Intn), impl.Order(w, roots, somePicks(r)).State
		for _, run := range s.Runs {
			why := impl.Why(w, s, run.Name)
			if failed := run.Over && run.Fail; failed != (len(why) > 0) {
				t.Fatalf("%v of %v: why of %s: %q", roots, w, tellRun(run), why)
			}
			sizes[len(why)]++
			for i, name := range why {
				if i == 0 && name != run.Name || slices.Contains(why[:i], name) {
					t.Fatalf("%v of %v: why of %s: %q", roots, w, run.Name, why)
				}
				if i > 0 && !slices.Contains(impl.Uses(w, s, name), run.Name) {
					t.Fatalf("%v of %v: %s failed because of %s, but does not use it", roots, w, run.Name, name)
				}
			}
			if len(why) == 0 {
				continue
			}
			last := why[len(why)-1]
			if _, inWeb := x.find(last); inWeb && !slices.Equal(x.why(last), []string{last}) {
				t.Fatalf("%v of %v: %s, the last of %q, did not fail of itself", roots, w, last, why)
			}
		}
	}
	for n := range 4 {
		if sizes[n] < 20 {
			t.Errorf("only %d with %d names", sizes[n], n)
		}
	}
}
