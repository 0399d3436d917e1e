package tests

import (
	"strings"
	"testing"

	"loop.example/kilnweb/impl"
)

// checkWhy: names by name why they failed, of which there is nothing for all others.
func checkWhy(t *testing.T, w impl.Web, s impl.State, want string) {
	t.Helper()
	if !impl.ValidState(w, s) {
		t.Fatalf("not valid: %s", tellState(s))
	}
	checkText(t, "why", tellWhy(w, s), want)
}

func TestWhyOfItself(t *testing.T) {
	const most = impl.MaxVisits
	w := made(
		thing("bad", 1, bad("B")),
		thing("empty", 1, bad("")),
		thing("good", 1, end("below gone")),
		thing("late", 1, steps(most-1, asks(0, "bad"))...),
		thing("loop", 1, asks(0)),
		// Its Text is that of one that failed because of an Ask, but for how it came to be.
		thing("own", 1, bad("below bad")),
		thing("x()", 1, bad("X")),
		thing("ownx", 1, catches(1, "x()"), bad("below x")),
		thing("spent", 1, bad("spent")))
	s := impl.Order(w, []string{"bad", "empty", "good", "late", "loop", "own", "ownx", "spent", "x()"}, nil).State
	checkText(t, "own", runIn(s, "own").Text, "below bad()")
	checkText(t, "ownx", runIn(s, "ownx").Text, "below x()")
	// To be spent goes ahead of a failed answer.
	checkText(t, "late", runIn(s, "late").Text, "spent")
	checkWhy(t, w, s, "bad:bad empty:empty late:late loop:loop own:own ownx:ownx spent:spent x():x()")
}

func TestWhyBecauseOfAnAsk(t *testing.T) {
	w := made(
		thing("a", 1, asks(1, "good"), asks(2, "good", "c", "bad", "b"), end("A")),
		thing("b", 1, asks(1, "bad"), end("B")),
		thing("bad", 1, bad("below b")),
		thing("c", 1, asks(1, "d", "gone"), end("C")),
		thing("d", 1, asks(1, "good", "loop"), end("D")),
		thing("good", 1, end("G")),
		thing("loop", 1, asks(0)),
		thing("n", 1, asks(1, "gone", "bad"), end("N")),
		thing("nn", 1, asks(1, "n"), end("NN")),
		thing("spent", 1, end("never asked for")))
	for _, picks := range [][]int{nil, {1}, {3, 0, 2}} {
		s := impl.Order(w, []string{"a", "nn"}, picks).State
		checkWhy(t, w, s, "a:a,c,d,loop b:b,bad bad:bad c:c,d,loop d:d,loop loop:loop n:n,gone nn:nn,n,gone")
		checkText(t, "uses of loop", strings.Join(impl.Uses(w, s, "loop"), " "), "a c d")
		checkText(t, "uses of gone", strings.Join(impl.Uses(w, s, "gone"), " "), "a c n nn")
		checkText(t, "uses of bad", strings.Join(impl.Uses(w, s, "bad"), " "), "a b n nn")
	}
}

// TestWhyIsTheFirstAsk: the first in the order of the Asks, whichever failed first, and whatever its name.
func TestWhyIsTheFirstAsk(t *testing.T) {
	w := made(thing("a", 1, asks(1, "good", "z", "b", "gone"), end("A")), thing("b", 1, bad("B")), thing("good", 1, end("G")), thing("z", 1, bad("Z")))
	for _, order := range []string{"a b good z a", "a z b good a", "a good z b a"} {
		checkWhy(t, w, doAll(w, impl.Start(w, []string{"a"}), order), "a:a,z b:b z:z")
	}
}

func TestWhyOnTheWay(t *testing.T) {
	w := made(
		thing("a", 1, asks(1, "b", "c"), end("A")),
		thing("b", 1, asks(1, "gone"), end("B")),
		thing("c", 1, asks(1, "c"), end("C")))
	s := impl.Start(w, []string{"a", "gone"})
	checkWhy(t, w, s, "")
	s = doAll(w, s, "a")
	checkWhy(t, w, s, "")
	// It has begun, and what it asks for has failed: it has not failed yet.
	s = doAll(w, s, "b")
	checkWhy(t, w, s, "")
	s = doAll(w, s, "b")
	checkWhy(t, w, s, "b:b,gone")
	// a has not failed: it still waits for c, which waits for itself.
	s = doAll(w, s, "c")
	checkWhy(t, w, s, "b:b,gone")
	checkNames(t, "stuck", impl.Stuck(w, s), "a c")
}

func TestWhyOfWhatWasCaught(t *testing.T) {
	w := made(
		thing("bad", 1, bad("B")),
		thing("below", 1, asks(1, "bad"), end("")),
		// These have caught a failure, and then end well, badly, because of another one, or spent.
		thing("well", 1, catches(1, "below"), end("W")),
		thing("badly", 1, catches(1, "below"), bad("W")),
		thing("other", 1, catches(1, "below"), asks(2, "well", "gone"), end("W")),
		thing("round", 1, catches(0, "below")),
		thing("top", 1, catches(1, "badly", "other", "round"), asks(2, "well", "round", "other"), end("T")))
	s := impl.Order(w, []string{"top"}, nil).State
	checkWhy(t, w, s, "bad:bad badly:badly below:below,bad other:other,gone round:round top:top,round")
	checkText(t, "uses of bad", strings.Join(impl.Uses(w, s, "bad"), " "), "badly below other round top well")
}

// TestWhyThroughAll: all things of the greatest web, and one that is none of it.
func TestWhyThroughAll(t *testing.T) {
	const most = impl.MaxNodes
	names := make1(most, nameNo)
	chain := impl.Web{Nodes: make1(most, func(i int) impl.Node {
		if i == most-1 {
			return wait(nameNo(i), "gone")
		}
		return wait(nameNo(i), nameNo(i+1))
	})}
	s := impl.Order(chain, names[:1], nil).State
	for i, name := range names {
		checkNames(t, name, impl.Why(chain, s, name), strings.Join(append(names[i:most:most], "gone"), " "))
		checkNames(t, name, impl.Uses(chain, s, name), strings.Join(names[:i], " "))
	}
	checkNames(t, "gone", impl.Why(chain, s, "gone"), "")
	checkNames(t, "gone", impl.Uses(chain, s, "gone"), strings.Join(names, " "))
}
