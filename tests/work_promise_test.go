package tests

import (
	"fmt"
	"math/rand"
	"slices"
	"strings"
	"testing"

	"loop.example/kilnweb/impl"
)

// shop is workers at work as the document tells it, told apart from the program's.
type shop struct {
	*jobs
	slots  []impl.Slot
	of     []int          // by the place of a slot: that of its cause, -1 if there is none
	causes map[string]int // by a thing that is ready: the place of the cause
	busy   map[int]int    // by a worker: the place of the slot on which he works
}

func (x *shop) endOf(place int) int {
	s := x.slots[place]
	return s.At + x.all[s.Name].action.Cost
}

// perform does what comes next in a thing, and notes what became ready by it.
func (x *shop) perform(name string, cause int) {
	before := x.ready()
	x.do(name)
	for _, other := range x.ready() {
		if other == name || !slices.Contains(before, other) {
			x.causes[other] = cause
		}
	}
}

// endAt does the units that end at a tick, and says whether there were any.
func (x *shop) endAt(tick int) bool {
	ending := map[string]int{}
	for worker, place := range x.busy {
		if x.endOf(place) == tick {
			ending[x.slots[place].Name] = place
			delete(x.busy, worker)
		}
	}
	for _, name := range x.names() {
		if place, ends := ending[name]; ends {
			x.perform(name, place)
		}
	}
	return len(ending) > 0
}

// exhaust makes over what is spent, each time the least.
func (x *shop) exhaust() {
	for {
		spent := slices.DeleteFunc(x.ready(), func(name string) bool { return x.all[name].units < impl.MaxVisits })
		if len(spent) == 0 {
			return
		}
		x.perform(spent[0], x.causes[spent[0]])
	}
}

// chosen gives what a free worker takes, the empty text if there is nothing.
func (x *shop) chosen() string {
	best := ""
	for _, name := range x.ready() {
		workedOn := false
		for _, place := range x.busy {
			workedOn = workedOn || x.slots[place].Name == name
		}
		if !workedOn && (best == "" || x.all[name].action.Cost > x.all[best].action.Cost) {
			best = name
		}
	}
	return best
}

// beginAt lets each worker who is free begin with something.
func (x *shop) beginAt(tick, workers int) {
	for worker := range workers {
		if _, busy := x.busy[worker]; busy {
			continue
		}
		name := x.chosen()
		if name == "" {
			return
		}
		x.busy[worker] = len(x.slots)
		x.slots = append(x.slots, impl.Slot{At: tick, Worker: worker, Name: name})
		x.of = append(x.of, x.causes[name])
	}
}

// planned is the plan that the definition gives.
func planned(w impl.Web, roots []string, workers int) impl.Plan {
	x := &shop{jobs: begun(w, roots), causes: map[string]int{}, busy: map[int]int{}}
	for _, name := range x.ready() {
		x.causes[name] = -1
	}
	for tick := 0; tick == 0 || len(x.busy) > 0; tick++ {
		if x.endAt(tick) || tick == 0 {
			x.exhaust()
			x.beginAt(tick, workers)
		}
	}
	out := impl.Plan{Slots: x.slots, Outcome: x.outcome(roots)}
	last := -1
	for place := range x.slots {
		if x.endOf(place) > out.Ticks {
			out.Ticks, last = x.endOf(place), place
		}
	}
	for ; last >= 0; last = x.of[last] {
		out.Chain = append([]impl.Slot{x.slots[last]}, out.Chain...)
	}
	return out
}

// weary gives a web in which many are spent, many at the same tick, and others wait for them.
func weary(r *rand.Rand, size int) impl.Web {
	return impl.Web{Nodes: make1(size, func(i int) impl.Node {
		names := make1(min(r.Intn(4), size-1-i), func(k int) string { return nameNo(i + 1 + k) })
		if r.Intn(30) == 0 {
			names = []string{nameNo(r.Intn(size))}
		}
		r.Shuffle(len(names), func(a, b int) { names[a], names[b] = names[b], names[a] })
		cost := 1 + r.Intn(2)*r.Intn(3)
		switch r.Intn(4) {
		case 0:
			return thing(nameNo(i), cost, catches(0, names...))
		case 1:
			// All its units are gone by the time that it asks.
			return thing(nameNo(i), cost, steps(19, catches(r.Intn(20), names...))...)
		case 2:
			return thing(nameNo(i), cost, steps(19, end("E"))...)
		}
		return thing(nameNo(i), cost, catches(1, names...), end("E"))
	})}
}

// cheap gives the web with costs so small that much ends at one tick.
func cheap(r *rand.Rand, w impl.Web) impl.Web {
	most := 1 + r.Intn(3)
	for i := range w.Nodes {
		w.Nodes[i].Action.Cost = 1 + r.Intn(most)
	}
	return w
}

// someWork gives a web and roots of one of many kinds.
func someWork(r *rand.Rand, size int) (impl.Web, []string) {
	var w impl.Web
	switch r.Intn(4) {
	case 0:
		w = lively(r, size)
	case 1:
		w = cheap(r, lively(r, size))
	case 2:
		w = cheap(r, knot(r, size))
	default:
		w = weary(r, size)
	}
	if r.Intn(3) > 0 {
		return w, someRoots(r, size)
	}
	roots := r.Perm(size)[:min(size, impl.MaxRoots)]
	return w, make1(len(roots), func(i int) string { return nameNo(roots[i]) })
}

// crews are numbers of workers: few, as many as runs and about that, and the most.
func crews(w impl.Web, roots []string) []int {
	runs := max(1, len(impl.Order(w, roots, nil).State.Runs))
	return []int{1, 2, 3, max(1, runs-1), runs, min(runs+1, impl.MaxWorkers), impl.MaxWorkers}
}

// TestWorkAgainstTheDefinition: whole plans of many webs, roots and numbers of workers.
func TestWorkAgainstTheDefinition(t *testing.T) {
	r := rand.New(rand.NewSource(25))
	seen := map[string]int{}
	for range 1200 {
		size := 1 + r.Intn(10)
		w, roots := someWork(r, size)
		if impl.CheckWeb(w) != 0 {
			t.Fatalf("a web that is not valid: %v", w)
		}
		for _, k := range crews(w, roots) {
			got, want := impl.Work(w, roots, k), planned(w, roots, k)
			if tellPlan(got) != tellPlan(want) {
				t.Fatalf("%v of %v, %d workers: %s, not %s", roots, w, k, tellPlan(got), tellPlan(want))
			}
			note(seen, got.Outcome)
		}
	}
	for _, what := range []string{"code 0", "code 1", "spent", "below", "text", "circle of 1", "circle of 2", "circle of 3"} {
		if seen[what] < 50 {
			t.Errorf("%s: only %d of these", what, seen[what])
		}
	}
}

// TestWorkOfRandomActions: webs of actions at the edges of what is valid.
func TestWorkOfRandomActions(t *testing.T) {
	r := rand.New(rand.NewSource(26))
	for range 60 {
		size := 1 + r.Intn(20)
		w := impl.Web{Nodes: make1(size, func(i int) impl.Node { return impl.Node{Name: nameNo(i), Action: randomAction(r)} })}
		roots, k := someRoots(r, size), 1+r.Intn(impl.MaxWorkers)
		if got, want := impl.Work(w, roots, k), planned(w, roots, k); tellPlan(got) != tellPlan(want) {
			t.Fatalf("%v of %v, %d workers: %s, not %s", roots, w, k, tellPlan(got), tellPlan(want))
		}
	}
}

// costOf is what a unit of a thing takes.
func costOf(w impl.Web, name string) int {
	for _, n := range w.Nodes {
		if n.Name == name {
			return n.Action.Cost
		}
	}
	return 0
}

// apart says whether no two of some slots overlap.
func apart(w impl.Web, slots []impl.Slot) bool {
	for i, a := range slots {
		for _, b := range slots[:i] {
			if a.At < b.At+costOf(w, b.Name) && b.At < a.At+costOf(w, a.Name) {
				return false
			}
		}
	}
	return true
}

// only gives those slots for which keep holds.
func only(slots []impl.Slot, keep func(s impl.Slot) bool) []impl.Slot {
	return slices.DeleteFunc(slices.Clone(slots), func(s impl.Slot) bool { return !keep(s) })
}

// checkSlots: slots in their order, of workers that there are; none of a worker overlaps another, none of a thing, and as many of a thing as it has units.
func checkSlots(t *testing.T, w impl.Web, last impl.State, k int, p impl.Plan) {
	t.Helper()
	if len(p.Slots) != p.Outcome.Units {
		t.Fatalf("%v, %d workers: not as many slots as units: %s", w, k, tellPlan(p))
	}
	for i, s := range p.Slots {
		ordered := i == 0 || p.Slots[i-1].At < s.At || p.Slots[i-1].At == s.At && p.Slots[i-1].Worker < s.Worker
		if !ordered || s.At < 0 || s.Worker < 0 || s.Worker >= k {
			t.Fatalf("%v, %d workers: slot %d: %s", w, k, i, tellPlan(p))
		}
	}
	for worker := range k {
		if !apart(w, only(p.Slots, func(s impl.Slot) bool { return s.Worker == worker })) {
			t.Fatalf("%v, %d workers: worker %d does two things at once: %s", w, k, worker, tellPlan(p))
		}
	}
	for _, run := range last.Runs {
		own := only(p.Slots, func(s impl.Slot) bool { return s.Name == run.Name })
		if len(own) != run.Visits || !apart(w, own) {
			t.Fatalf("%v, %d workers: %s is worked on by two at once, or not as often as it has units: %s", w, k, run.Name, tellPlan(p))
		}
	}
}

// replayed does with Do what the slots say, in the order in which they end, and what is spent as soon as it can be done.
func replayed(t *testing.T, w impl.Web, roots []string, p impl.Plan) impl.State {
	t.Helper()
	endings := slices.Clone(p.Slots)
	slices.SortFunc(endings, func(a, b impl.Slot) int {
		if x, y := a.At+costOf(w, a.Name), b.At+costOf(w, b.Name); x != y {
			return x - y
		}
		return strings.Compare(a.Name, b.Name)
	})
	s := impl.Start(w, roots)
	for _, slot := range endings {
		if !slices.Contains(impl.Ready(w, s), slot.Name) {
			t.Fatalf("%v of %v: %s is worked on, and is not ready: %s", roots, w, slot.Name, tellPlan(p))
		}
		s = withoutSpent(w, impl.Do(w, s, slot.Name))
	}
	return s
}

// withoutSpent makes over what is spent.
func withoutSpent(w impl.Web, s impl.State) impl.State {
	for {
		at := slices.IndexFunc(s.Runs, func(r impl.Run) bool {
			return r.Visits == impl.MaxVisits && !r.Over && slices.Contains(impl.Ready(w, s), r.Name)
		})
		if at < 0 {
			return s
		}
		s = impl.Do(w, s, s.Runs[at].Name)
	}
}

// Promise 10, and promise 4 with workers in place of picks.
func TestPromise10(t *testing.T) {
	r := rand.New(rand.NewSource(27))
	seen := map[string]int{}
	for i := range 500 {
		size := 1 + r.Intn(9)
		w, roots := someWork(r, size)
		last := impl.Order(w, roots, somePicks(r)).State
		clean := tell(impl.Clean(w, roots))
		if told := tell(impl.Told(w, last)); told != clean {
			t.Fatalf("%v of %v: told %s, clean %s", roots, w, told, clean)
		}
		for _, k := range crews(w, roots) {
			p := impl.Work(w, roots, k)
			if p.Code != 0 || tell(p.Outcome) != clean {
				t.Fatalf("%v of %v, %d workers: %s, not %s", roots, w, k, tellPlan(p), clean)
			}
			checkSlots(t, w, last, k, p)
			if i%4 > 0 || k > 3 {
				continue
			}
			if got := replayed(t, w, roots, p); tellState(got) != tellState(last) {
				t.Fatalf("%v of %v, %d workers: %s, not %s", roots, w, k, tellState(got), tellState(last))
			}
		}
		note(seen, impl.Clean(w, roots))
	}
	for _, what := range []string{"code 0", "code 1", "spent", "text", "circle of 1", "circle of 2"} {
		if seen[what] < 10 {
			t.Errorf("%s: only %d of these", what, seen[what])
		}
	}
}

// checkChain: it ends with the first slot that ends at the last tick; each cause has ended when its slot begins; with one slot at least if there are any.
func checkChain(t *testing.T, w impl.Web, p impl.Plan) {
	t.Helper()
	endOf := func(s impl.Slot) int { return s.At + costOf(w, s.Name) }
	first := slices.IndexFunc(p.Slots, func(s impl.Slot) bool { return endOf(s) == p.Ticks })
	if first < 0 {
		if len(p.Slots) != 0 || len(p.Chain) != 0 || p.Ticks != 0 {
			t.Fatalf("%v: no slot ends at the last tick: %s", w, tellPlan(p))
		}
		return
	}
	if len(p.Chain) == 0 || p.Chain[len(p.Chain)-1] != p.Slots[first] {
		t.Fatalf("%v: the chain has another end: %s", w, tellPlan(p))
	}
	for i, s := range p.Chain {
		if !slices.Contains(p.Slots, s) || i > 0 && endOf(p.Chain[i-1]) > s.At {
			t.Fatalf("%v: slot %d of the chain: %s", w, i, tellPlan(p))
		}
	}
}

// Promise 11: each of the bounds on the time.
func TestPromise11(t *testing.T) {
	r := rand.New(rand.NewSource(28))
	slower := 0
	for range 1000 {
		size := 1 + r.Intn(14)
		w, roots := someWork(r, size)
		cost := impl.Clean(w, roots).Cost
		runs := len(impl.Order(w, roots, nil).State.Runs)
		fastest := impl.Work(w, roots, impl.MaxWorkers).Ticks
		for _, k := range append(crews(w, roots), 1+r.Intn(impl.MaxWorkers)) {
			p := impl.Work(w, roots, k)
			chain := 0
			for _, s := range p.Chain {
				chain += costOf(w, s.Name)
			}
			checkChain(t, w, p)
			switch what := fmt.Sprintf("%v of %v, %d workers: ", roots, w, k); {
			case k == 1 && p.Ticks != cost:
				t.Fatalf("%sone worker takes another time than the cost: %s", what, tellPlan(p))
			case k*p.Ticks < cost:
				t.Fatalf("%smore is done than there is time: %s", what, tellPlan(p))
			case p.Ticks < fastest:
				t.Fatalf("%sless time than the most workers take: %s", what, tellPlan(p))
			case k*p.Ticks > cost+(k-1)*chain:
				t.Fatalf("%smore time than the bound: %s", what, tellPlan(p))
			case k >= runs && chain != p.Ticks:
				t.Fatalf("%sa break in the chain: %s", what, tellPlan(p))
			}
			if p.Ticks > fastest {
				slower++
			}
		}
	}
	if slower < 500 {
		t.Errorf("only %d in which workers are too few", slower)
	}
}

// TestWorkAnswersTheSameEachTime: a map is gone through in another order each time.
func TestWorkAnswersTheSameEachTime(t *testing.T) {
	r := rand.New(rand.NewSource(29))
	for range 30 {
		w, roots := someWork(r, 30)
		k := 1 + r.Intn(10)
		first := tellPlan(impl.Work(w, roots, k))
		for range 10 {
			if again := tellPlan(impl.Work(w, roots, k)); again != first {
				t.Fatalf("%s, and then %s", first, again)
			}
		}
	}
}

func TestWorkAnswersAreNewMemory(t *testing.T) {
	r := rand.New(rand.NewSource(30))
	for range 100 {
		size := 1 + r.Intn(6)
		w, roots := someWork(r, size)
		w, roots = roomyWeb(w), roomy(roots, "spare")
		for _, k := range []int{0, 1, 2, impl.MaxWorkers} {
			checkFresh(t, "Work", func() any { return impl.Work(w, roots, k) }, w, roots)
		}
	}
	// Names of the web, its asks and the roots are one memory; what comes out is not.
	shared := asks(1, "b")
	w := impl.Web{Nodes: []impl.Node{thing("a", 1, shared, end("E")), thing("b", 1, end("E")), thing("c", 1, shared, asks(2, "c"), end("E"))}}
	roots := []string{w.Nodes[2].Name, w.Nodes[0].Name, shared.Asks[0]}
	checkFresh(t, "shared", func() any { return impl.Work(w, roots, 2) }, w, roots)
	for _, list := range [][]string{nil, {"a", "a"}, {"gone"}} {
		checkFresh(t, "nothing", func() any { return impl.Work(w, list, 2) }, w, list)
	}
	// One answer is not changed by what is written into another.
	one, two := impl.Work(w, roots, 2), impl.Work(w, roots, 2)
	want := tellPlan(two)
	one.Slots[0].Name, one.Chain[0].At, one.Outcome.Results[0].Text = "x", 99, "x"
	if tellPlan(two) != want || tellPlan(impl.Work(w, roots, 2)) != want {
		t.Error("one plan was changed by another")
	}
}
