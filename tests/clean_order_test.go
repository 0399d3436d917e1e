package tests

import (
	"math/rand"
	"slices"
	"strings"
	"testing"

	"loop.example/kilnweb/impl"
)

// job is a run as the document tells it, told apart from the program's.
type job struct {
	action impl.Action
	at     int
	units  int
	texts  []string
	asked  []string
	over   bool
	answer impl.Answer
}

func (j *job) finish(fail bool, text string) {
	j.over = true
	j.answer = impl.Answer{Fail: fail, Text: text}
}

func (j *job) asks() []string {
	if j.units == 0 || j.over {
		return nil
	}
	return j.action.Steps[j.at].Asks
}

// jobs is a web that is worked through one unit at a time.
type jobs struct {
	web  impl.Web
	all  map[string]*job
	done []string
}

func (x jobs) find(name string) (impl.Action, bool) {
	for _, n := range x.web.Nodes {
		if n.Name == name {
			return n.Action, true
		}
	}
	return impl.Action{}, false
}

func (x *jobs) want(name string) {
	if a, found := x.find(name); found && x.all[name] == nil {
		x.all[name] = &job{action: a}
	}
}

func (x jobs) answer(name string) (impl.Answer, bool) {
	if _, found := x.find(name); !found {
		return fail("no " + name), true
	}
	j := x.all[name]
	return j.answer, j.over
}

// waits are the names, ascending, for which a run waits.
func (x jobs) waits(name string) []string {
	var out []string
	for _, ask := range x.all[name].asks() {
		if _, there := x.answer(ask); !there {
			out = append(out, ask)
		}
	}
	slices.Sort(out)
	return out
}

func (x jobs) names() []string {
	var out []string
	for name := range x.all {
		out = append(out, name)
	}
	slices.Sort(out)
	return out
}

func (x jobs) ready() []string {
	return slices.DeleteFunc(x.names(), func(name string) bool {
		return x.all[name].over || len(x.waits(name)) > 0
	})
}

func (x *jobs) do(name string) {
	j := x.all[name]
	x.done = append(x.done, name)
	if j.units == impl.MaxVisits {
		j.finish(true, "spent")
		return
	}
	j.units++
	if j.units > 1 {
		answers := make1(len(j.action.Steps[j.at].Asks), func(i int) impl.Answer {
			a, _ := x.answer(j.action.Steps[j.at].Asks[i])
			return a
		})
		gone := impl.GoOn(j.action, j.at, answers)
		if gone.Code != 0 {
			panic("a unit that can be done has a code")
		}
		if gone.Over {
			j.finish(true, gone.Text)
			return
		}
		j.at = gone.At
		for _, a := range answers {
			if !a.Fail {
				j.texts = append(j.texts, a.Text)
			}
		}
	}
	if s := j.action.Steps[j.at]; s.End {
		j.finish(s.Bad, impl.Finish(s.Give, j.texts))
		return
	}
	for _, ask := range j.asks() {
		x.want(ask)
		j.asked = append(j.asked, ask)
	}
}

func (x jobs) outcome(roots []string) impl.Outcome {
	var out impl.Outcome
	for _, root := range roots {
		a, over := x.answer(root)
		out.Results = append(out.Results, impl.Result{Name: root, Over: over, Fail: a.Fail, Text: a.Text})
		if !over {
			out.Code = 1
		}
	}
	for _, j := range x.all {
		out.Units += j.units
		out.Cost += j.units * j.action.Cost
	}
	if out.Code == 1 {
		out.Chain = x.circle()
	}
	return out
}

// circle looks for circles of one name, then of two, and so on, each time in their order.
func (x jobs) circle() []string {
	names := x.names()
	for size := 1; size <= len(names); size++ {
		for _, name := range names {
			if found := x.close([]string{name}, size); found != nil {
				return found
			}
		}
	}
	return nil
}

// close gives the first circle of so many names that begins with a way and its least name.
func (x jobs) close(way []string, size int) []string {
	waits := x.waits(way[len(way)-1])
	if len(way) == size {
		if slices.Contains(waits, way[0]) {
			return way
		}
		return nil
	}
	for _, next := range waits {
		if next > way[0] && !slices.Contains(way, next) {
			if found := x.close(append(slices.Clone(way), next), size); found != nil {
				return found
			}
		}
	}
	return nil
}

// worked works a web through; pick says which of those that are ready comes next.
func worked(w impl.Web, roots []string, pick func(ready int) int) jobs {
	x := jobs{web: w, all: map[string]*job{}}
	for _, root := range roots {
		x.want(root)
	}
	for ready := x.ready(); len(ready) > 0; ready = x.ready() {
		x.do(ready[pick(len(ready))])
	}
	return x
}

// lively gives a web in which much can happen: most ask for what comes behind them, some for what is ahead.
func lively(r *rand.Rand, size int) impl.Web {
	texts := []string{"x()", "y()", "()", "x(y())", "y(x(),())"}
	backward := r.Intn(3) * r.Intn(10)
	return impl.Web{Nodes: make1(size, func(i int) impl.Node {
		n := 1 + r.Intn(5)
		name := func() string {
			if r.Intn(12) == 0 {
				return "gone"
			}
			if i+1 < size && r.Intn(100) >= backward {
				return nameNo(i + 1 + r.Intn(size-i-1))
			}
			return nameNo(r.Intn(size))
		}
		step := func(at int) impl.Step {
			if at == n-1 && r.Intn(20) > 0 || r.Intn(6) == 0 {
				return impl.Step{End: true, Bad: r.Intn(4) == 0, Give: []string{"x", "y", "", rep(impl.MaxGive)}[r.Intn(4)]}
			}
			s := impl.Step{Else: min(at+1, n-1), Fall: r.Intn(n+1) - 1}
			for range r.Intn(4) {
				if ask := name(); !slices.Contains(s.Asks, ask) && (i+1 < size || backward > 0) {
					s.Asks = append(s.Asks, ask)
				}
			}
			if len(s.Asks) > 0 {
				s.On = r.Intn(len(s.Asks))
			}
			for range r.Intn(3) {
				s.Cases = append(s.Cases, impl.Case{Text: texts[r.Intn(len(texts))], Goto: r.Intn(n)})
			}
			return s
		}
		return impl.Node{Name: nameNo(i), Action: impl.Action{Cost: 1 + r.Intn(impl.MaxCost), Steps: make1(n, step)}}
	})}
}

// someRoots gives roots of a web, and at times one that is none of it.
func someRoots(r *rand.Rand, size int) []string {
	var out []string
	for _, i := range r.Perm(size)[:1+r.Intn(min(3, size))] {
		out = append(out, nameNo(i))
	}
	if r.Intn(5) == 0 {
		out = append(out, "gone")
	}
	return out
}

// Promise 4, as far as it speaks of Clean: whatever is done first, all comes to what Clean says.
func TestPromise4CleanInEveryOrder(t *testing.T) {
	r := rand.New(rand.NewSource(6))
	seen := map[string]int{}
	picks := []func(int) int{
		func(int) int { return 0 },
		func(ready int) int { return ready - 1 },
		r.Intn,
		r.Intn,
	}
	for range 6000 {
		size := 1 + r.Intn(9)
		w, roots := lively(r, size), someRoots(r, size)
		if impl.CheckWeb(w) != 0 {
			t.Fatalf("a web that is not valid: %v", w)
		}
		got := tell(impl.Clean(w, roots))
		for i, pick := range picks {
			x := worked(w, roots, pick)
			if want := tell(x.outcome(roots)); got != want {
				t.Fatalf("%v of %v, order %d: %s, not %s", roots, w, i, got, want)
			}
		}
		note(seen, impl.Clean(w, roots))
	}
	for _, what := range []string{"code 0", "code 1", "spent", "below", "text", "long", "circle of 1", "circle of 2", "circle of 3"} {
		if seen[what] < 10 {
			t.Errorf("%s: only %d of these", what, seen[what])
		}
	}
}

// note counts what an outcome holds, so that a test can say that it has seen all.
func note(seen map[string]int, o impl.Outcome) {
	seen["code "+string(rune('0'+o.Code))]++
	if n := len(o.Chain); n > 0 {
		seen["circle of "+string(rune('0'+n))]++
	}
	for _, r := range o.Results {
		switch {
		case r.Text == "spent":
			seen["spent"]++
		case strings.HasPrefix(r.Text, "below "):
			seen["below"]++
		case strings.HasPrefix(r.Text, "#"):
			seen["long"]++
		case len(r.Text) > 10:
			seen["text"]++
		}
	}
}

// TestCleanCirclesOfKnots: nearly nothing ends, and circles of many sizes lie side by side.
func TestCleanCirclesOfKnots(t *testing.T) {
	r := rand.New(rand.NewSource(9))
	seen := map[string]int{}
	for range 3000 {
		size := 2 + r.Intn(12)
		w := impl.Web{Nodes: make1(size, func(i int) impl.Node {
			others := slices.DeleteFunc(r.Perm(size), func(k int) bool { return k == i && r.Intn(20) > 0 })
			names := make1(min(len(others), 1+r.Intn(2)), func(k int) string { return nameNo(others[k]) })
			return thing(nameNo(i), 1, asks(1, names...), end(""))
		})}
		roots := someRoots(r, size)
		got := impl.Clean(w, roots)
		if want := worked(w, roots, r.Intn).outcome(roots); tell(got) != tell(want) {
			t.Fatalf("%v of %v: %s, not %s", roots, w, tell(got), tell(want))
		}
		note(seen, got)
	}
	for _, what := range []string{"circle of 1", "circle of 2", "circle of 3", "circle of 4", "circle of 5"} {
		if seen[what] < 10 {
			t.Errorf("%s: only %d of these", what, seen[what])
		}
	}
}

// TestCleanOfRandomActions: webs of actions at the edges of what is valid.
func TestCleanOfRandomActions(t *testing.T) {
	r := rand.New(rand.NewSource(7))
	for range 500 {
		size := 1 + r.Intn(20)
		w := impl.Web{Nodes: make1(size, func(i int) impl.Node { return impl.Node{Name: nameNo(i), Action: randomAction(r)} })}
		roots := someRoots(r, size)
		got, want := tell(impl.Clean(w, roots)), tell(worked(w, roots, r.Intn).outcome(roots))
		if got != want {
			t.Fatalf("%v of %v: %s, not %s", roots, w, got, want)
		}
	}
}

// TestCleanAnswersTheSameEachTime: a map is gone through in another order each time.
func TestCleanAnswersTheSameEachTime(t *testing.T) {
	r := rand.New(rand.NewSource(8))
	for range 40 {
		w, roots := lively(r, 30), someRoots(r, 30)
		first := tell(impl.Clean(w, roots))
		for range 20 {
			if again := tell(impl.Clean(w, roots)); again != first {
				t.Fatalf("%v: %s, and then %s", roots, first, again)
			}
		}
	}
}
