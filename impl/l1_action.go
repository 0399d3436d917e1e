// Package impl: a web of work whose edges appear while it is done.
package impl

import (
	"slices"
	"strconv"
	"strings"
)

// Limits of actions.
const (
	MaxName   = 20
	MaxGive   = 30
	MaxText   = 200
	MaxSteps  = 20
	MaxAsks   = 5
	MaxCases  = 5
	MaxCost   = 20
	MaxVisits = 20
)

// noFall in a step's Fall: a failed answer ends the action.
const noFall = -1

// The sum that stands for a text that is too long.
const (
	sumStart  uint64 = 14695981039346656037
	sumFactor uint64 = 1099511628211
	sumDigits        = 16
)

// Case is a way on.
type Case struct {
	Text string
	Goto int
}

// Step is a step of an action.
type Step struct {
	Asks  []string
	On    int
	Cases []Case
	Else  int
	Fall  int
	End   bool
	Bad   bool
	Give  string
}

// Action makes a thing.
type Action struct {
	Cost  int
	Steps []Step
}

// Answer is what an ask is answered.
type Answer struct {
	Fail bool
	Text string
}

// Gone is what follows a step.
type Gone struct {
	Code int
	Over bool
	At   int
	Text string
}

// kind is a step as one of the three types goodEnd, badEnd and question.
type kind interface {
	// sound says whether the step is valid in an action with so many steps.
	sound(steps int) bool
}

type goodEnd struct{ Step }

type badEnd struct{ Step }

type question struct{ Step }

func kindOf(s Step) kind {
	switch {
	case !s.End:
		return question{s}
	case s.Bad:
		return badEnd{s}
	}
	return goodEnd{s}
}

func (e goodEnd) sound(int) bool {
	return soundEnd(e.Step)
}

func (e badEnd) sound(int) bool {
	return soundEnd(e.Step)
}

func soundEnd(s Step) bool {
	asksNothing := len(s.Asks) == 0 && s.On == 0
	leadsNowhere := len(s.Cases) == 0 && s.Else == 0 && s.Fall == 0
	return asksNothing && leadsNowhere && len(s.Give) <= MaxGive
}

func (q question) sound(steps int) bool {
	if q.Bad || q.Give != "" {
		return false
	}
	return q.soundAsks() && q.soundWays(steps)
}

func (q question) soundAsks() bool {
	if len(q.Asks) > MaxAsks {
		return false
	}
	for i, ask := range q.Asks {
		if !validName(ask) || slices.Contains(q.Asks[:i], ask) {
			return false
		}
	}
	// Without asks On is 0, as if there were one.
	return isPlace(q.On, max(1, len(q.Asks)))
}

func (q question) soundWays(steps int) bool {
	if len(q.Cases) > MaxCases {
		return false
	}
	for _, c := range q.Cases {
		if longText(c.Text) || !isPlace(c.Goto, steps) {
			return false
		}
	}
	return isPlace(q.Else, steps) && (q.Fall == noFall || isPlace(q.Fall, steps))
}

func isPlace(at, size int) bool {
	return 0 <= at && at < size
}

func longText(text string) bool {
	return len(text) > MaxText
}

func longAnswer(answer Answer) bool {
	return longText(answer.Text)
}

func failed(answer Answer) bool {
	return answer.Fail
}

func validName(name string) bool {
	if len(name) < 1 || len(name) > MaxName || name == "-" {
		return false
	}
	for _, b := range []byte(name) {
		if b < 33 || b > 126 || b == ',' {
			return false
		}
	}
	return true
}

// ValidAction says whether an action is valid.
func ValidAction(a Action) bool {
	if a.Cost < 1 || a.Cost > MaxCost || len(a.Steps) < 1 || len(a.Steps) > MaxSteps {
		return false
	}
	for _, s := range a.Steps {
		if !kindOf(s).sound(len(a.Steps)) {
			return false
		}
	}
	return true
}

// GoOn says what follows a step whose asks are answered.
func GoOn(a Action, at int, answers []Answer) Gone {
	if !ValidAction(a) || !isPlace(at, len(a.Steps)) {
		return Gone{Code: 1}
	}
	return follow(kindOf(a.Steps[at]), answers)
}

func follow(k kind, answers []Answer) Gone {
	switch k := k.(type) {
	case question:
		return k.follow(answers)
	case goodEnd, badEnd:
		// Nothing follows an end.
	}
	return Gone{Code: 1}
}

func (q question) follow(answers []Answer) Gone {
	if len(answers) != len(q.Asks) || slices.ContainsFunc(answers, longAnswer) {
		return Gone{Code: 1}
	}
	// A failure goes ahead of the cases: the answer number On may match one and have failed.
	first := slices.IndexFunc(answers, failed)
	switch {
	case first < 0:
		return Gone{At: q.choose(answers)}
	case q.Fall == noFall:
		return Gone{Over: true, Text: "below " + q.Asks[first]}
	}
	return Gone{At: q.Fall}
}

func (q question) choose(answers []Answer) int {
	if len(answers) == 0 {
		return q.Else
	}
	for _, c := range q.Cases {
		if c.Text == answers[q.On].Text {
			return c.Goto
		}
	}
	return q.Else
}

// Finish says what comes out.
func Finish(give string, texts []string) string {
	if len(give) > MaxGive || len(texts) > MaxVisits*MaxAsks || slices.ContainsFunc(texts, longText) {
		return ""
	}
	whole := give + "(" + strings.Join(texts, ",") + ")"
	if longText(whole) {
		return "#" + digits(sum(whole), sumDigits)
	}
	return whole
}

func sum(text string) uint64 {
	total := sumStart
	for _, b := range []byte(text) {
		total ^= uint64(b)
		total *= sumFactor
	}
	return total
}

// digits gives a number in so many of the digits 0-9a-f, which must be enough for it.
func digits(number uint64, size int) string {
	short := strconv.FormatUint(number, 16)
	return strings.Repeat("0", size-len(short)) + short
}
