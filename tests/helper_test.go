package tests

import (
	"math/rand"
	"strings"

	"loop.example/kilnweb/impl"
)

func rep(n int) string { return strings.Repeat("t", n) }

func end(give string) impl.Step { return impl.Step{End: true, Give: give} }

func bad(give string) impl.Step { return impl.Step{End: true, Bad: true, Give: give} }

func ends(n int) []impl.Step {
	return make1(n, func(int) impl.Step { return end("") })
}

func make1[T any](n int, f func(int) T) []T {
	out := make([]T, n)
	for i := range out {
		out[i] = f(i)
	}
	return out
}

// one is an action with this step, and ends behind it up to three steps.
func one(s impl.Step) impl.Action {
	return impl.Action{Cost: 1, Steps: []impl.Step{s, end("A"), bad("B")}}
}

func ok(text string) impl.Answer { return impl.Answer{Text: text} }

func fail(text string) impl.Answer { return impl.Answer{Fail: true, Text: text} }

var words = []string{"", "p", "q", "P", "a()", "a(b())", "\x00\xff", rep(impl.MaxText)}

func word(r *rand.Rand) string { return words[r.Intn(len(words))] }

// nameNo gives the names a00, a01 .. in their order.
func nameNo(i int) string { return "a" + string(rune('0'+i/10)) + string(rune('0'+i%10)) }

func randomStep(r *rand.Rand, steps int) impl.Step {
	if r.Intn(4) == 0 {
		return impl.Step{End: true, Bad: r.Intn(2) == 0, Give: rep(r.Intn(impl.MaxGive + 1))}
	}
	s := impl.Step{Else: r.Intn(steps), Fall: r.Intn(steps+1) - 1}
	for _, i := range r.Perm(20)[:r.Intn(impl.MaxAsks+1)] {
		s.Asks = append(s.Asks, nameNo(i))
	}
	if len(s.Asks) > 0 {
		s.On = r.Intn(len(s.Asks))
	}
	for range r.Intn(impl.MaxCases + 1) {
		s.Cases = append(s.Cases, impl.Case{Text: word(r), Goto: r.Intn(steps)})
	}
	return s
}

func randomAction(r *rand.Rand) impl.Action {
	n := 1 + r.Intn(impl.MaxSteps)
	return impl.Action{
		Cost:  1 + r.Intn(impl.MaxCost),
		Steps: make1(n, func(int) impl.Step { return randomStep(r, n) }),
	}
}
