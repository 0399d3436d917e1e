package tests

import (
	"fmt"
	"math"
	"strings"
	"testing"

	"loop.example/kilnweb/impl"
)

// tellSlots writes slots out, each as its tick, its worker and its name.
func tellSlots(slots []impl.Slot) string {
	return strings.Join(make1(len(slots), func(i int) string {
		return fmt.Sprintf("%d:%d:%s", slots[i].At, slots[i].Worker, slots[i].Name)
	}), " ")
}

// tellPlan writes a plan out, the empty list as the nil list.
func tellPlan(p impl.Plan) string {
	return fmt.Sprintf("%d; %s; %d; %s; %s", p.Code, tellSlots(p.Slots), p.Ticks, tell(p.Outcome), tellSlots(p.Chain))
}

// workCase is what so many workers are to do, from the roots on.
type workCase struct {
	roots   string
	workers int
	slots   string
	ticks   int
	outcome string
	chain   string
}

func checkWork(t *testing.T, w impl.Web, cases ...workCase) {
	t.Helper()
	if code := impl.CheckWeb(w); code != 0 {
		t.Fatalf("the web is not valid: %d", code)
	}
	for _, c := range cases {
		p := impl.Work(w, strings.Fields(c.roots), c.workers)
		what := fmt.Sprintf("%s, %d workers: ", c.roots, c.workers)
		if p.Code != 0 || p.Ticks != c.ticks {
			t.Errorf("%scode %d, %d ticks, not %d", what, p.Code, p.Ticks, c.ticks)
		}
		checkText(t, what+"slots", tellSlots(p.Slots), c.slots)
		checkText(t, what+"outcome", tell(p.Outcome), c.outcome)
		checkText(t, what+"chain", tellSlots(p.Chain), c.chain)
	}
}

// lastAsk is the steps of a run that asks with its last unit, and then is spent, whatever the answers.
func lastAsk(names ...string) []impl.Step {
	return steps(impl.MaxVisits-1, catches(impl.MaxVisits-1, names...))
}

func leaf(name string, cost int) impl.Node { return thing(name, cost, end(name)) }

func TestWorkOfOneAndOfMany(t *testing.T) {
	w := made(
		thing("a", 2, asks(1, "b", "c", "d"), end("A")),
		thing("b", 3, end("B")),
		thing("c", 5, asks(1, "b"), end("C")),
		thing("d", 4, asks(1, "b", "c"), bad("D")),
		leaf("unasked", 20))
	const told = "0 7 25 a!below d"
	chain := "0:0:a 2:0:c 7:0:c 12:0:d 16:0:a"
	three := "0:0:a 2:0:c 2:1:d 2:2:b 7:0:c 12:0:d 16:0:a"
	checkWork(t, w,
		workCase{"a", 1, "0:0:a 2:0:c 7:0:d 11:0:b 14:0:c 19:0:d 23:0:a", 25, told, "0:0:a 11:0:b 14:0:c 19:0:d 23:0:a"},
		workCase{"a", 2, "0:0:a 2:0:c 2:1:d 6:1:b 9:0:c 14:0:d 18:0:a", 20, told, "0:0:a 6:1:b 9:0:c 14:0:d 18:0:a"},
		workCase{"a", 3, three, 18, told, chain},
		// As many as runs, more than runs, and the most that there may be.
		workCase{"a", 4, three, 18, told, chain},
		workCase{"a", 5, three, 18, told, chain},
		workCase{"a", impl.MaxWorkers, three, 18, told, chain},
		workCase{"b", 1, "0:0:b", 3, "0 1 3 b=B()", "0:0:b"},
		workCase{"c b", 2, "0:0:c 0:1:b 5:0:c", 10, "0 3 13 c=C(B()) b=B()", "0:0:c 5:0:c"})
}

func TestWorkOfNothing(t *testing.T) {
	w := made(leaf("a", 3))
	checkWork(t, w,
		workCase{"gone", 1, "", 0, "0 0 0 gone!no gone", ""},
		workCase{"gone b c", impl.MaxWorkers, "", 0, "0 0 0 gone!no gone b!no b c!no c", ""},
		workCase{"gone a b", 2, "0:0:a", 3, "0 1 3 gone!no gone a=a() b!no b", "0:0:a"})
	checkWork(t, impl.Web{}, workCase{"a", 7, "", 0, "0 0 0 a!no a", ""})
}

// TestWorkChoosesTheCostliest: of what is ready the greatest cost, of several of that cost the least name.
func TestWorkChoosesTheCostliest(t *testing.T) {
	w := made(leaf("a", 1), leaf("b", 7), leaf("c", 7), leaf("d", 20), leaf("e", 19), leaf("B", 7), leaf("bb", 7))
	const roots = "e bb c a B d b"
	const told = "0 7 68 e=e() bb=bb() c=c() a=a() B=B() d=d() b=b()"
	checkWork(t, w,
		workCase{roots, 1, "0:0:d 20:0:e 39:0:B 46:0:b 53:0:bb 60:0:c 67:0:a", 68, told, "67:0:a"},
		workCase{roots, 2, "0:0:d 0:1:e 19:1:B 20:0:b 26:1:bb 27:0:c 33:1:a", 34, told, "27:0:c"},
		workCase{roots, 3, "0:0:d 0:1:e 0:2:B 7:2:b 14:2:bb 19:1:c 20:0:a", 26, told, "19:1:c"},
		workCase{roots, 7, "0:0:d 0:1:e 0:2:B 0:3:b 0:4:bb 0:5:c 0:6:a", 20, told, "0:0:d"})
	// Costly work that comes late goes ahead of what has been ready for long.
	late := made(leaf("z", 9), thing("a", 5, asks(1, "z"), end("A")), leaf("b", 5), leaf("c", 5))
	checkWork(t, late, workCase{"a b c", 1, "0:0:a 5:0:z 14:0:a 19:0:b 24:0:c", 29, "0 5 29 a=A(z()) b=b() c=c()", "24:0:c"})
}

// TestWorkOfFreeWorkers: the least number takes first, whoever was free earlier; one that ends begins at the same tick.
func TestWorkOfFreeWorkers(t *testing.T) {
	w := made(
		thing("p", 4, asks(1, "x", "y", "z"), end("P")), leaf("q", 2), leaf("r", 1),
		leaf("x", 3), leaf("y", 2), leaf("z", 1))
	const told = "0 7 17 p=P(x(),y(),z()) q=q() r=r()"
	checkWork(t, w,
		// Worker 2 is free from 1 on, worker 1 from 2 on; at 4 worker 0 ends and takes first.
		workCase{"p q r", 3, "0:0:p 0:1:q 0:2:r 4:0:x 4:1:y 4:2:z 7:0:p", 11, told, "0:0:p 4:0:x 7:0:p"},
		workCase{"p q r", 2, "0:0:p 0:1:q 2:1:r 4:0:x 4:1:y 6:1:z 7:0:p", 11, told, "0:0:p 6:1:z 7:0:p"})
	// Workers 0 and 2 end at one tick, and 1 is busy.
	some := made(leaf("a", 5), leaf("b", 9), leaf("c", 5), leaf("d", 5), leaf("e", 4), leaf("f", 3))
	checkWork(t, some, workCase{"a b c d e f", 3, "0:0:b 0:1:a 0:2:c 5:1:d 5:2:e 9:0:f", 12, "0 6 31 a=a() b=b() c=c() d=d() e=e() f=f()", "9:0:f"})
}

// TestWorkEndsAheadOfBeginnings: what ends at a tick is done ahead of every choice of that tick, whoever worked on it.
func TestWorkEndsAheadOfBeginnings(t *testing.T) {
	w := made(
		thing("a", 3, asks(1, "big"), end("A")), thing("z", 3, asks(1, "bigger"), end("Z")),
		leaf("big", 10), leaf("bigger", 11), leaf("small", 2), leaf("tiny", 1))
	const told = "0 8 36 a=A(big()) z=Z(bigger()) small=small() tiny=tiny()"
	checkWork(t, w,
		// Worker 0, who ended with a, takes what z asked for at the same tick.
		workCase{"a z small tiny", 2, "0:0:a 0:1:z 3:0:bigger 3:1:big 13:1:a 14:0:z 16:1:small 17:0:tiny", 18, told, "16:1:small"},
		// Two workers are free ahead of 3, and at 3 the ones with the least numbers take first.
		workCase{"a z small tiny", 4, "0:0:a 0:1:z 0:2:small 0:3:tiny 3:0:bigger 3:1:big 13:1:a 14:0:z", 17, told, "0:1:z 3:0:bigger 14:0:z"})
}

// TestWorkIsDoneInTheOrderOfNames: of units that end at one tick the last one makes ready what waits for all of them.
func TestWorkIsDoneInTheOrderOfNames(t *testing.T) {
	for _, c := range []struct{ first, second, cause string }{
		{"b", "c", "12:1:c"}, {"c", "b", "9:0:c"}, {"b", "bb", "12:1:bb"}, {"bb", "b", "9:0:bb"}, {"B", "a", "12:1:a"}, {"a", "B", "9:0:a"},
	} {
		// The first one takes 5 ticks from 9 on, the second one 2 from 12 on.
		w := made(thing("u", 9, asks(1, c.first, "fill", c.second), end("U")), leaf(c.first, 5), leaf("fill", 3), leaf(c.second, 2))
		checkWork(t, w, workCase{"u", 2, fmt.Sprintf("0:0:u 9:0:%s 9:1:fill 12:1:%s 14:0:u", c.first, c.second), 23,
			fmt.Sprintf("0 5 28 u=U(%s(),fill(),%s())", c.first, c.second), "0:0:u " + c.cause + " 14:0:u"})
	}
	// What waits for the others ends with them: it asks ahead of them by its name, or behind them.
	ahead := made(thing("A", 2, asks(1, "c", "b"), end("A")), leaf("b", 2), leaf("c", 2))
	checkWork(t, ahead, workCase{"A b c", 3, "0:0:A 0:1:b 0:2:c 2:0:A", 4, "0 4 8 A=A(c(),b()) b=b() c=c()", "0:2:c 2:0:A"})
	behind := made(thing("d", 2, asks(1, "c", "b"), end("D")), leaf("b", 2), leaf("c", 2))
	checkWork(t, behind, workCase{"b c d", 3, "0:0:b 0:1:c 0:2:d 2:0:d", 4, "0 4 8 b=b() c=c() d=D(c(),b())", "0:2:d 2:0:d"})
}

// times writes a slot out as often as one worker does it without a break.
func times(n, from, worker, cost int, name string) string {
	return strings.Join(make1(n, func(i int) string { return fmt.Sprintf("%d:%d:%s", from+i*cost, worker, name) }), " ")
}

func TestWorkOfSpent(t *testing.T) {
	w := made(
		thing("loop", 5, asks(0)),
		thing("more", 3, steps(19, asks(19))...),
		thing("just", 3, steps(19, end("J"))...),
		thing("below", 2, asks(1, "loop"), end("never")),
		thing("caught", 7, catches(1, "loop"), end("C")))
	loops := times(20, 0, 0, 5, "loop")
	checkWork(t, w,
		workCase{"loop", 1, loops, 100, "0 20 100 loop!spent", loops},
		workCase{"loop", 2, loops, 100, "0 20 100 loop!spent", loops},
		workCase{"more", 1, times(20, 0, 0, 3, "more"), 60, "0 20 60 more!spent", times(20, 0, 0, 3, "more")},
		workCase{"just", 1, times(20, 0, 0, 3, "just"), 60, "0 20 60 just=J()", times(20, 0, 0, 3, "just")},
		workCase{"caught", 1, "0:0:caught " + times(20, 7, 0, 5, "loop") + " 107:0:caught", 114, "0 22 114 caught=C()", "0:0:caught " + times(20, 7, 0, 5, "loop") + " 107:0:caught"},
		workCase{"below", 3, "0:0:below " + times(20, 2, 0, 5, "loop") + " 102:0:below", 104, "0 22 104 below!below loop", "0:0:below " + times(20, 2, 0, 5, "loop") + " 102:0:below"},
		// What is made over takes nothing of the time that others have.
		workCase{"loop more", 2, mixed(), 100, "0 40 160 loop!spent more!spent", loops})
}

// mixed is what two workers do of loop and more: each thing stays with its worker, but where both end at one tick.
func mixed() string {
	var out []string
	for tick := range 100 {
		switch {
		case tick%5 == 0:
			out = append(out, fmt.Sprintf("%d:0:loop", tick))
			if tick%3 == 0 && tick < 60 {
				out = append(out, fmt.Sprintf("%d:1:more", tick))
			}
		case tick%3 == 0 && tick < 60:
			out = append(out, fmt.Sprintf("%d:1:more", tick))
		}
	}
	return strings.Join(out, " ")
}

// TestWorkOfSpentAheadOfTheChoice: what a run that is spent makes ready can be chosen at the same tick.
func TestWorkOfSpentAheadOfTheChoice(t *testing.T) {
	w := made(thing("loop", 19, asks(0)), thing("user", 20, catches(1, "loop"), end("U")), leaf("cheap", 18))
	loops := times(20, 20, 0, 19, "loop")
	// At 400 the only worker has the choice between cheap, which has been ready from the start, and user.
	checkWork(t, w, workCase{"cheap user", 1, "0:0:user " + loops + " 400:0:user 420:0:cheap", 438, "0 23 438 cheap=cheap() user=U()", "420:0:cheap"})
	// At 20 a ends, and loop, which is over at once: user, who is ready by that, goes ahead of late.
	both := made(
		thing("loop", 1, asks(0)), thing("user", 7, catches(1, "loop"), end("U")),
		thing("a", 20, asks(1, "late"), end("A")), leaf("late", 6))
	p := impl.Work(both, []string{"a", "loop", "user"}, 3)
	checkText(t, "both", tellSlots(p.Slots[len(p.Slots)-3:]), "20:0:user 20:1:late 26:1:a")
}

// TestWorkOfSpentThatMakesSpent: one that is made over answers the last ask of another that has all its units, too.
func TestWorkOfSpentThatMakesSpent(t *testing.T) {
	w := made(
		thing("c", 1, asks(0)),
		thing("b", 1, lastAsk("c")...),
		thing("a", 1, lastAsk("b")...),
		thing("d", 1, lastAsk("a", "b", "c")...),
		thing("u", 9, catches(1, "d", "a"), end("U")))
	p := impl.Work(w, []string{"u", "a", "b", "c", "d"}, impl.MaxWorkers)
	// All of them are over at 20, and u goes on at once.
	if p.Ticks != 29 || len(p.Slots) != 4*20+2 {
		t.Errorf("%d ticks, %d slots", p.Ticks, len(p.Slots))
	}
	checkText(t, "outcome", tell(p.Outcome), "0 82 98 u=U() a!spent b!spent c!spent d!spent")
	// What c did last made b over, and so a and d; up to 9 the worker with the least number works on u.
	checkText(t, "chain", tellSlots(p.Chain), times(9, 0, 3, 1, "c")+" "+times(11, 9, 2, 1, "c")+" 20:0:u")
}

func TestWorkOfCircles(t *testing.T) {
	w := made(
		thing("x", 1, asks(1, "y"), end("X")), thing("y", 2, asks(1, "x"), end("Y")),
		thing("self", 4, asks(1, "b", "self"), end("S")), leaf("b", 3), leaf("c", 6),
		thing("to", 5, asks(1, "c", "x"), end("T")))
	checkWork(t, w,
		workCase{"x", 1, "0:0:x 1:0:y", 3, "1 2 3 x? >x >y", "0:0:x 1:0:y"},
		workCase{"x", 2, "0:0:x 1:0:y", 3, "1 2 3 x? >x >y", "0:0:x 1:0:y"},
		workCase{"self", 1, "0:0:self 4:0:b", 7, "1 2 7 self? >self", "0:0:self 4:0:b"},
		workCase{"self gone", 2, "0:0:self 4:0:b", 7, "1 2 7 self? gone!no gone >self", "0:0:self 4:0:b"},
		workCase{"to b", 2, "0:0:to 0:1:b 5:0:c 5:1:x 6:1:y", 11, "1 5 17 to? b=b() >x >y", "0:0:to 5:0:c"},
		workCase{"to b", 1, "0:0:to 5:0:c 11:0:b 14:0:x 15:0:y", 17, "1 5 17 to? b=b() >x >y", "0:0:to 14:0:x 15:0:y"})
	// A circle of runs that have all their units but one.
	most := impl.Web{Nodes: make1(2, func(i int) impl.Node { return thing(nameNo(i), 1, steps(19, asks(19, nameNo(1-i)))...) })}
	p := impl.Work(most, []string{"a00", "a01"}, 2)
	if p.Ticks != 20 || len(p.Slots) != 40 || tell(p.Outcome) != "1 40 40 a00? a01? >a00 >a01" || len(p.Chain) != 20 {
		t.Errorf("%s", tellPlan(p))
	}
}

func TestWorkAtTheLimits(t *testing.T) {
	const most = impl.MaxNodes
	great := impl.Web{Nodes: make1(most, func(i int) impl.Node {
		names := make1(min(5, most-1-i), func(k int) string { return nameNo(i + 1 + k) })
		return thing(nameNo(i), 20, catches(0, names...))
	})}
	for _, k := range []int{1, 2, 59, impl.MaxWorkers} {
		p := impl.Work(great, []string{nameNo(0)}, k)
		if p.Code != 0 || len(p.Slots) != most*20 || tell(p.Outcome) != fmt.Sprintf("0 %d %d a00!spent", most*20, most*400) {
			t.Errorf("%d workers: code %d, %d slots, %s", k, p.Code, len(p.Slots), tell(p.Outcome))
		}
		if k == 1 && p.Ticks != most*400 {
			t.Errorf("%d ticks", p.Ticks)
		}
	}
	// As many things at once as there can be: 50 that are asked for by ten.
	wide := impl.Web{Nodes: make1(most, func(i int) impl.Node {
		if i >= impl.MaxRoots {
			return thing(nameNo(i), 20, end(""))
		}
		return thing(nameNo(i), 1, asks(1, make1(5, func(k int) string { return nameNo(impl.MaxRoots + 5*i + k) })...), end(""))
	})}
	for k, ticks := range map[int]int{1: 1020, 9: 124, 10: 102, 49: 42, 50: 22, impl.MaxWorkers: 22} {
		p := impl.Work(wide, make1(impl.MaxRoots, nameNo), k)
		if p.Code != 0 || p.Ticks != ticks || len(p.Slots) != 70 || p.Outcome.Code != 0 {
			t.Errorf("%d workers: %s", k, tellPlan(p))
		}
	}
}

func checkNoPlan(t *testing.T, what string, p impl.Plan) {
	t.Helper()
	if p.Code != 9 || len(p.Slots) != 0 || p.Ticks != 0 || tell(p.Outcome) != "0 0 0" || len(p.Chain) != 0 {
		t.Errorf("%s: %s", what, tellPlan(p))
	}
}

func TestWorkRefuses(t *testing.T) {
	good := web("a", "b")
	for _, k := range []int{0, -1, impl.MaxWorkers + 1, 1000, math.MinInt, math.MaxInt} {
		checkNoPlan(t, fmt.Sprint(k, " workers"), impl.Work(good, []string{"a"}, k))
		checkNoPlan(t, fmt.Sprint(k, " workers"), impl.Work(good, []string{"gone"}, k))
		checkNoPlan(t, fmt.Sprint(k, " workers"), impl.Work(impl.Web{}, nil, k))
	}
	for i, w := range []impl.Web{
		webOfSize(impl.MaxNodes + 1), web("-"), web("a", "a"), web("b", "a"), broken(web("a", "b"), 1),
		made(thing("a", 1, asks(1))), made(thing("a", 1, asks(0, "b", "b"))), made(thing("a", 0, end(""))), made(thing("a", impl.MaxCost+1, end(""))),
		{Nodes: make([]impl.Node, 1)}, {Nodes: make([]impl.Node, 100000)},
	} {
		for _, roots := range [][]string{{"a"}, {"gone"}, {"a00"}, nil} {
			checkNoPlan(t, fmt.Sprint("web ", i), impl.Work(w, roots, 1))
		}
	}
	for i, roots := range [][]string{
		nil, {}, {""}, {"-"}, {"a", "a"}, {"a", "gone", "gone"}, {"a", "b,"}, make1(impl.MaxRoots+1, nameNo), make([]string, 100000),
	} {
		checkNoPlan(t, fmt.Sprint("roots ", i), impl.Work(good, roots, 1))
		checkNoPlan(t, fmt.Sprint("roots ", i), impl.Work(impl.Web{}, roots, impl.MaxWorkers))
	}
	for _, name := range badNames {
		checkNoPlan(t, name, impl.Work(good, []string{"a", name}, 2))
	}
	for _, k := range []int{1, impl.MaxWorkers} {
		if p := impl.Work(good, []string{"a", "b"}, k); p.Code != 0 || len(p.Slots) != 2 {
			t.Errorf("%d workers: %s", k, tellPlan(p))
		}
	}
}
