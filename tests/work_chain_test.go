package tests

import (
	"fmt"
	"strings"
	"testing"

	"loop.example/kilnweb/impl"
)

// TestChainOfOneThing: the cause of a slot is that of the same thing, where nothing had to be waited for.
func TestChainOfOneThing(t *testing.T) {
	w := made(
		thing("alone", 3, asks(1), asks(2, "gone"), end("never")),
		thing("twice", 2, asks(1, "b"), asks(2, "b"), end("T")), leaf("b", 5))
	checkWork(t, w,
		workCase{"alone", 1, "0:0:alone 3:0:alone 6:0:alone", 9, "0 3 9 alone!below gone", "0:0:alone 3:0:alone 6:0:alone"},
		// b is over when it is asked for again.
		workCase{"twice", 2, "0:0:twice 2:0:b 7:0:twice 9:0:twice", 11, "0 4 11 twice=T(b(),b())", "0:0:twice 2:0:b 7:0:twice 9:0:twice"},
		// b is over when it is asked for first.
		workCase{"twice b", 1, "0:0:b 5:0:twice 7:0:twice 9:0:twice", 11, "0 4 11 twice=T(b(),b()) b=b()", "5:0:twice 7:0:twice 9:0:twice"})
}

// TestChainOfWhatIsAskedFor: a thing is ready by the unit that asked for it first, not by a later one.
func TestChainOfWhatIsAskedFor(t *testing.T) {
	w := made(
		thing("early", 4, asks(1, "p"), end("E")), thing("later", 5, asks(1, "p"), end("L")),
		leaf("p", 3), leaf("fill", 6))
	checkWork(t, w,
		workCase{"early later", 2, "0:0:later 0:1:early 4:1:p 7:0:later 7:1:early", 12, "0 5 21 early=E(p()) later=L(p())", "0:1:early 4:1:p 7:0:later"},
		// p is begun when both have asked.
		workCase{"early fill later", 2, "0:0:fill 0:1:later 5:1:early 6:0:p 9:0:later 9:1:early", 14, "0 6 27 early=E(p()) fill=fill() later=L(p())", "0:1:later 6:0:p 9:0:later"},
		workCase{"early fill later", 1, "0:0:fill 6:0:later 11:0:early 15:0:p 18:0:later 23:0:early", 27, "0 6 27 early=E(p()) fill=fill() later=L(p())", "6:0:later 15:0:p 23:0:early"})
	// Both ask at one tick: the one with the lesser name is done first.
	same := made(thing("y", 4, asks(1, "p"), end("Y")), thing("x", 4, asks(1, "p"), end("X")), leaf("p", 1))
	checkWork(t, same, workCase{"y x", 2, "0:0:x 0:1:y 4:0:p 5:0:x 5:1:y", 9, "0 5 17 y=Y(p()) x=X(p())", "0:0:x 4:0:p 5:0:x"})
	// A root that is asked for was ready at the start.
	root := made(thing("a", 4, asks(1, "p"), end("A")), leaf("p", 3))
	checkWork(t, root, workCase{"a p", 1, "0:0:a 4:0:p 7:0:a", 11, "0 3 11 a=A(p()) p=p()", "4:0:p 7:0:a"})
}

// TestChainOfTheLastThatWasWaitedFor: of several the one that was done last, whatever the order in which they were asked for.
func TestChainOfTheLastThatWasWaitedFor(t *testing.T) {
	for _, names := range []string{"p q r", "r q p", "q p r"} {
		w := made(thing("a", 1, asks(1, strings.Fields(names)...), asks(2, "s"), end("A")), leaf("p", 4), leaf("q", 6), leaf("r", 5), leaf("s", 2))
		for k, chain := range map[int]string{
			1: "0:0:a 12:0:p 16:0:a 17:0:s 19:0:a",
			2: "0:0:a 6:1:p 10:0:a 11:0:s 13:0:a",
			3: "0:0:a 1:0:q 7:0:a 8:0:s 10:0:a",
		} {
			p := impl.Work(w, []string{"a"}, k)
			checkText(t, fmt.Sprintf("%s, %d workers", names, k), tellSlots(p.Chain), chain)
		}
	}
	// A failure does not make ready what still waits for others.
	w := made(thing("a", 1, asks(1, "bad", "slow"), end("A")), thing("bad", 2, bad("")), leaf("slow", 9))
	checkWork(t, w, workCase{"a", 2, "0:0:a 1:0:slow 1:1:bad 10:0:a", 11, "0 4 13 a!below bad", "0:0:a 1:0:slow 10:0:a"})
}

// TestChainThroughSpent: what became ready because another one was made over has the cause of that one.
func TestChainThroughSpent(t *testing.T) {
	loops := times(20, 2, 0, 1, "s")
	own := made(thing("s", 1, asks(0)), thing("u", 2, catches(1, "s"), end("U")))
	checkWork(t, own, workCase{"u", 1, "0:0:u " + loops + " 22:0:u", 24, "0 22 24 u=U()", "0:0:u " + loops + " 22:0:u"})
	// s waits with all its units for slow: slow is the cause of s being made over, and so of u.
	other := made(thing("s", 1, lastAsk("slow")...), thing("u", 2, catches(1, "s", "slow"), end("U")), thing("slow", 20, asks(1), end("W")))
	p := impl.Work(other, []string{"u", "s", "slow"}, 3)
	checkText(t, "other", tellSlots(p.Chain), "0:0:slow 20:0:slow 40:0:u")
	// One that is made over makes over the next, and that one the next.
	row := made(
		thing("s1", 1, lastAsk("s2")...), thing("s2", 1, lastAsk("s3")...), thing("s3", 1, lastAsk("slow")...),
		thing("u", 2, catches(1, "s1"), end("U")), thing("slow", 20, asks(1), end("W")))
	p = impl.Work(row, []string{"u", "s1", "slow", "s2", "s3"}, 5)
	checkText(t, "row", tellSlots(p.Chain), "0:0:slow 20:0:slow 40:0:u")
	if p.Ticks != 42 || len(p.Slots) != 60+4 {
		t.Errorf("row: %s", tellPlan(p))
	}
}

// TestChainOfSeveralSpent: they are made over behind all ends of the tick, the least name first, so the cause of the greatest stays.
func TestChainOfSeveralSpent(t *testing.T) {
	for i, c := range []struct {
		asks1, asks2 string // for whom s1 and s2 wait with all their units
		cost1, cost2 int
		cause        string
	}{
		{"p", "q", 1, 1, times(5, 0, 1, 20, "q")}, {"q", "p", 1, 1, times(5, 0, 0, 20, "p")},
		// The greater cost does not go ahead.
		{"p", "q", 1, 3, times(5, 0, 1, 20, "q")}, {"q", "p", 1, 3, times(5, 0, 0, 20, "p")},
		{"p", "q", 4, 2, times(5, 0, 1, 20, "q")}, {"q", "p", 4, 2, times(5, 0, 0, 20, "p")},
	} {
		// p and q both end at 100, when s1 and s2 have long asked for them.
		w := made(
			thing("p", 20, steps(4, end("P"))...), thing("q", 20, steps(4, end("Q"))...),
			thing("s1", c.cost1, lastAsk(c.asks1)...), thing("s2", c.cost2, lastAsk(c.asks2)...),
			thing("u", 2, catches(1, "s2", "s1"), end("U")))
		plan := impl.Work(w, []string{"u", "p", "q", "s1", "s2"}, 5)
		checkText(t, fmt.Sprint("case ", i), tellSlots(plan.Chain), c.cause+" 100:0:u")
	}
	// p makes s over, but ahead of that q is done: u, which waits for s and q, is ready because of p.
	w := made(
		thing("p", 20, asks(1), end("P")), thing("q", 20, asks(1), end("Q")),
		thing("s", 1, lastAsk("p")...), thing("u", 2, catches(1, "q", "s"), end("U")))
	plan := impl.Work(w, []string{"u", "p", "q", "s"}, 4)
	checkText(t, "q ahead of s", tellSlots(plan.Chain), "0:0:p 20:0:p 40:0:u")
	// Each time the least: making s2 over makes s1 ready, which goes ahead of s3, so that u is ready because of q.
	again := made(
		thing("p", 20, asks(1), end("P")), thing("q", 20, asks(1), end("Q")),
		thing("s1", 1, lastAsk("s2")...), thing("s2", 1, lastAsk("p")...), thing("s3", 1, lastAsk("q")...),
		thing("u", 2, catches(1, "s1", "s3"), end("U")))
	plan = impl.Work(again, []string{"u", "p", "q", "s1", "s2", "s3"}, 6)
	checkText(t, "each time the least", tellSlots(plan.Chain), "0:1:q 20:1:q 40:0:u")
}

// TestChainBeginsWithTheFirstThatEndsLast: several slots end at the last tick.
func TestChainBeginsWithTheFirstThatEndsLast(t *testing.T) {
	w := made(leaf("a", 2), leaf("b", 3), leaf("c", 5), thing("d", 2, asks(1, "b"), end("D")))
	checkWork(t, w,
		workCase{"a b c", 2, "0:0:c 0:1:b 3:1:a", 5, "0 3 10 a=a() b=b() c=c()", "0:0:c"},
		workCase{"a b", 2, "0:0:b 0:1:a", 3, "0 2 5 a=a() b=b()", "0:0:b"},
		workCase{"b a d", 3, "0:0:b 0:1:a 0:2:d 3:0:d", 5, "0 4 9 b=b() a=a() d=D(b())", "0:0:b 3:0:d"})
	// Of one tick the slot of the least worker is the first, whatever its name.
	same := made(leaf("x", 4), leaf("y", 4))
	checkWork(t, same, workCase{"y x", 2, "0:0:x 0:1:y", 4, "0 2 8 y=y() x=x()", "0:0:x"})
	began := made(leaf("x", 9), leaf("fill", 5), leaf("a", 4))
	checkWork(t, began, workCase{"a x fill", 2, "0:0:x 0:1:fill 5:1:a", 9, "0 3 18 a=a() x=x() fill=fill()", "0:0:x"})
}
