package tests

import (
	"strings"
	"testing"

	"loop.example/kilnweb/impl"
)

// checkAnswers: a session is answered so.
func checkAnswers(t *testing.T, text, want string) {
	t.Helper()
	got := impl.Session(text)
	if got == want {
		return
	}
	wants := strings.SplitAfter(want, "\n")
	for i, line := range strings.SplitAfter(got, "\n") {
		if i >= len(wants) || line != wants[i] {
			t.Errorf("%.200q: from answer %d on %.200q, not %.200q", text, i, line, strings.Join(wants[min(i, len(wants)):], ""))
			return
		}
	}
	t.Errorf("%.200q: %.200q, not %.200q", text, got, want)
}

// checkTalk takes a session in which the answers stand behind their commands, each with a mark ahead of it.
func checkTalk(t *testing.T, talk string) {
	t.Helper()
	var text, want strings.Builder
	for line := range strings.Lines(talk) {
		if answer, marked := strings.CutPrefix(line, "> "); marked {
			want.WriteString(answer)
		} else {
			text.WriteString(line)
		}
	}
	checkAnswers(t, text.String(), want.String())
}

// allBad is the answer to so many commands that are none.
func allBad(commands int) string {
	return strings.Repeat("bad\n", commands)
}

// sevenThings: one that asks for another, two that ask for each other, one that asks for what is not there,
// one that is spent, and one that fails.
const sevenThings = `web
node a 2
ask b on 0 else 1 fall -1
end "A"
node b 3
end "B"
node k 1
ask l on 0 else 0 fall -1
node l 4
ask k on 0 else 0 fall -1
node n 5
ask gone on 0 else 0 fall -1
node s 1
ask - on 0 else 0 fall -1
node t 6
bad "two words \22\0a"
.
> ok 7
`

func TestSessionOfTheDocument(t *testing.T) {
	checkTalk(t, `web
node a 2
ask b,c on 0 else 1 fall -1
end "A"
node b 3
end "B"
node c 5
ask b on 0 else 1 fall -1
case 2 "B()"
bad "not this"
end "C"
.
> ok 3
start a
> ok
ready
> a
do a
> ok
ready
> b c
all 0
> done 5
told
> code 0 units 5 cost 17 a="A(B(),C(B()))"
work 1 a
> code 0 ticks 17 slots 5 chain 4
work 2 a
> code 0 ticks 14 slots 5 chain 4
`)
}

func TestSessionStepByStep(t *testing.T) {
	checkTalk(t, sevenThings+`start n k a
> ok
ready
> a k n
circle
> -
stuck
> -
waits a
> -
uses b
> -
why n
> -
told
> code 2 units 0 cost 0 n? k? a?
do a
> ok
ready
> b k n
waits a
> b
uses b
> a
told
> code 2 units 1 cost 2 n? k? a?
do a
> no
do b
> ok
do b
> no
ready
> a k n
do k
> ok
do l
> ok
circle
> k l
stuck
> k l
uses k
> k l
told
> code 2 units 4 cost 10 n? k? a?
do n
> ok
ready
> a n
do n
> ok
why n
> n gone
uses gone
> n
told
> code 2 units 6 cost 20 n!"below gone" k? a?
do a
> ok
ready
> -
told
> code 1 units 7 cost 22 n!"below gone" k? a="A(B())" circle k l
waits k
> l
waits a
> -
why a
> -
`)
}

// A circle of two, one that waits for it, and a circle of one.
func TestSessionCircles(t *testing.T) {
	checkTalk(t, `web
node k 1
ask l on 0 else 0 fall -1
node l 1
ask k on 0 else 0 fall -1
node m 1
ask k on 0 else 0 fall -1
node o 1
ask o on 0 else 0 fall -1
.
> ok 4
start m
> ok
all 0
> done 3
circle
> k l
stuck
> k l m
waits m
> k
uses l
> k l m
uses m
> -
why m
> -
told
> code 1 units 3 cost 3 m? circle k l
start m o
> ok
all 1 2
> done 4
circle
> o
stuck
> k l m o
told
> code 1 units 4 cost 4 m? o? circle o
clean o
> code 1 units 1 cost 1 o? circle o
`)
}

func TestSessionAll(t *testing.T) {
	checkTalk(t, sevenThings+`start a gone
> ok
all 0
> done 3
told
> code 0 units 3 cost 7 a="A(B())" gone!"no gone"
ready
> -
do a
> no
all 3 1 4
> done 3
start t s
> ok
all 1
> done 22
told
> code 0 units 21 cost 26 t!"two words \22\0a()" s!"spent"
why s
> s
start l
> ok
do l
> ok
all 9999 0
> done 2
told
> code 1 units 2 cost 5 l? circle k l
start gone
> ok
ready
> -
all 7
> done 0
told
> code 0 units 0 cost 0 gone!"no gone"
`)
}

// A result that is over, one that failed and one that is not over, with a circle and without; and roots that are none.
func TestSessionClean(t *testing.T) {
	checkTalk(t, sevenThings+`clean a
> code 0 units 3 cost 7 a="A(B())"
clean t b
> code 0 units 2 cost 9 t!"two words \22\0a()" b="B()"
clean k b gone
> code 1 units 3 cost 8 k? b="B()" gone!"no gone" circle k l
clean l k
> code 1 units 2 cost 5 l? k? circle k l
clean s
> code 0 units 20 cost 20 s!"spent"
clean n
> code 0 units 2 cost 10 n!"below gone"
clean a a
> code 9 units 0 cost 0
clean -
> code 9 units 0 cost 0
clean a,b
> code 9 units 0 cost 0
clean a b c d e f g h i j k
> code 9 units 0 cost 0
clean c d e f g h i j m o
> code 0 units 0 cost 0 c!"no c" d!"no d" e!"no e" f!"no f" g!"no g" h!"no h" i!"no i" j!"no j" m!"no m" o!"no o"
ready
> bad
`)
}

// The code is that of the plan, whatever its outcome.
func TestSessionWork(t *testing.T) {
	checkTalk(t, sevenThings+`work 1 a
> code 0 ticks 7 slots 3 chain 3
work 2 a b
> code 0 ticks 5 slots 3 chain 2
work 1 a b
> code 0 ticks 7 slots 3 chain 2
work 60 s
> code 0 ticks 20 slots 20 chain 20
work 3 k
> code 0 ticks 5 slots 2 chain 2
work 1 gone
> code 0 ticks 0 slots 0 chain 0
work 0 a
> code 9 ticks 0 slots 0 chain 0
work 61 a
> code 9 ticks 0 slots 0 chain 0
work 9999 a
> code 9 ticks 0 slots 0 chain 0
work 1 a a
> code 9 ticks 0 slots 0 chain 0
work 1 -
> code 9 ticks 0 slots 0 chain 0
work 1 1
> code 0 ticks 0 slots 0 chain 0
told
> bad
`)
}

// Neither work nor clean touches the state.
func TestSessionAsideOfTheState(t *testing.T) {
	checkTalk(t, sevenThings+`start a
> ok
do a
> ok
clean b
> code 0 units 1 cost 3 b="B()"
work 2 b
> code 0 ticks 3 slots 1 chain 1
ready
> b
told
> code 2 units 1 cost 2 a?
`)
}

func TestSessionQuotes(t *testing.T) {
	var form, want strings.Builder
	for b := range 256 {
		form.WriteString("web\nnode a 1\nend " + quoted(string([]byte{byte(b)})) + "\n.\nclean a\n")
		want.WriteString("ok 1\ncode 0 units 1 cost 1 a=" + quoted(string([]byte{byte(b)})+"()") + "\n")
		if b%64 == 63 {
			checkAnswers(t, form.String(), want.String())
			form.Reset()
			want.Reset()
		}
	}
}

// A web that is read takes the place of the other, one that is not leaves it; either takes the state away.
func TestSessionWebs(t *testing.T) {
	checkTalk(t, `clean a
> code 0 units 0 cost 0 a!"no a"
start a
> ok
web
node a 1
end "one"
.
> ok 1
ready
> bad
clean a
> code 0 units 1 cost 1 a="one()"
start a
> ok
ready
> a
web
node a 1
end "two
.
> no
ready
> bad
clean a
> code 0 units 1 cost 1 a="one()"
start a
> ok
do a
> ok
web
node b 1
end "b"
node c 1
end "c"
.
> ok 2
told
> bad
clean a b
> code 0 units 1 cost 1 a!"no a" b="b()"
web
.
> ok 0
clean b
> code 0 units 0 cost 0 b!"no b"
`)
}

// What start refuses leaves the state as it is.
func TestSessionStartRefused(t *testing.T) {
	checkTalk(t, sevenThings+`start a a
> no
ready
> bad
start b a
> ok
do b
> ok
start a a
> no
start -
> no
start b,a
> no
start a b c d e f g h i j k
> no
start abcdefghijklmnopqrstu
> no
ready
> a
told
> code 2 units 1 cost 3 b="B()" a?
start a b c d e f g h i j
> ok
ready
> a b
`)
}

// needState are the commands that need a state, as they may be told.
var needState = []string{"ready", "do a", "all 0", "told", "waits a", "uses a", "why a", "circle", "stuck"}

func TestSessionWithoutAState(t *testing.T) {
	each := strings.Join(needState, "\n") + "\n"
	form := "node a 1\nend \"A\"\n"
	for _, c := range []struct{ what, text, want string }{
		{"in the beginning", "", ""},
		{"behind a web", "web\n" + form + ".\n", "ok 1\n"},
		{"behind a web that is not read", "web\nx\n.\n", "no\n"},
		{"behind the empty web", "web\n.\n", "ok 0\n"},
		{"behind a start that is refused", "start a a\n", "no\n"},
		{"behind a state and a web", "web\n" + form + ".\nstart a\ndo a\nweb\n" + form + ".\n", "ok 1\nok\nok\nok 1\n"},
		{"behind a state and a web that is not read", "web\n" + form + ".\nstart a\ndo a\nweb\n" + form + "\n.\n", "ok 1\nok\nok\nno\n"},
		{"behind clean and work", "clean a\nwork 1 a\n", "code 0 units 0 cost 0 a!\"no a\"\ncode 0 ticks 0 slots 0 chain 0\n"},
	} {
		checkAnswers(t, c.text+each, c.want+allBad(len(needState)))
		for _, command := range needState {
			checkAnswers(t, c.text+command+"\n", c.want+"bad\n")
		}
	}
	for _, command := range needState {
		// A state of a name that is none of the web is one, too.
		got := impl.Session("start a\n" + command + "\n")
		if got == "ok\nbad\n" || !strings.HasPrefix(got, "ok\n") || strings.Count(got, "\n") != 2 {
			t.Errorf("%s with a state: %q", command, got)
		}
	}
}
