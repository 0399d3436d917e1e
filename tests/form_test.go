package tests

import (
	"fmt"
	"reflect"
	"strings"
	"testing"

	"loop.example/kilnweb/impl"
)

// quoted tells the definition of Q a second time.
func quoted(text string) string {
	var out strings.Builder
	for _, b := range []byte(text) {
		if b < 32 || b > 126 || b == 34 || b == 92 {
			fmt.Fprintf(&out, `\%02x`, b)
		} else {
			fmt.Fprintf(&out, "%c", b)
		}
	}
	return `"` + out.String() + `"`
}

// written tells the definition of the form a second time; of webs that are too great or not valid, too.
func written(w impl.Web) string {
	var out strings.Builder
	for _, n := range w.Nodes {
		fmt.Fprintf(&out, "node %s %d\n", n.Name, n.Action.Cost)
		for _, s := range n.Action.Steps {
			switch names := strings.Join(s.Asks, ","); {
			case s.End && !s.Bad:
				fmt.Fprintf(&out, "end %s\n", quoted(s.Give))
			case s.End:
				fmt.Fprintf(&out, "bad %s\n", quoted(s.Give))
			case len(s.Asks) == 0:
				fmt.Fprintf(&out, "ask - on %d else %d fall %d\n", s.On, s.Else, s.Fall)
			default:
				fmt.Fprintf(&out, "ask %s on %d else %d fall %d\n", names, s.On, s.Else, s.Fall)
			}
			for _, c := range s.Cases {
				fmt.Fprintf(&out, "case %d %s\n", c.Goto, quoted(c.Text))
			}
		}
	}
	return out.String()
}

// checkForm: the text is the form of the web, and is read as that web, every field.
func checkForm(t *testing.T, w impl.Web, form string) {
	t.Helper()
	if got := impl.PrintWeb(w); got != form {
		t.Errorf("written %q, not %q", got, form)
	}
	if got, read := impl.ParseWeb(form); !read || !reflect.DeepEqual(got, w) {
		t.Errorf("%q is read as %+v, %v", form, got, read)
	}
}

// checkUnread: the text is no form, and nothing is beside that.
func checkUnread(t *testing.T, what, text string) {
	t.Helper()
	if got, read := impl.ParseWeb(text); read || got.Nodes != nil {
		t.Errorf("%s: %.300q is read as %d nodes, %v", what, text, len(got.Nodes), read)
	}
}

// mixedForm has each kind of line; mixedWeb is its web.
const mixedForm = `node a 2
ask b,c on 1 else 2 fall -1
case 4 "B()"
case 0 ""
case 3 "two words, \22quoted\22 with a \5c and a \0a"
ask - on 0 else 2 fall 0
ask - on 0 else 3 fall 4
case 1 "x"
end "A"
bad "not this"
node b 20
bad ""
node b0 1
end ""
node c 5
ask b on 0 else 1 fall 1
end "C"
`

func mixedWeb() impl.Web {
	return made(
		thing("a", 2,
			impl.Step{Asks: []string{"b", "c"}, On: 1, Else: 2, Fall: -1, Cases: []impl.Case{
				{Text: "B()", Goto: 4}, {Text: "", Goto: 0}, {Text: "two words, \"quoted\" with a \\ and a \n", Goto: 3}}},
			impl.Step{Else: 2},
			impl.Step{Else: 3, Fall: 4, Cases: []impl.Case{{Text: "x", Goto: 1}}},
			end("A"), bad("not this")),
		thing("b", 20, bad("")),
		thing("b0", 1, end("")),
		thing("c", 5, impl.Step{Asks: []string{"b"}, Else: 1, Fall: 1}, end("C")),
	)
}

func TestFormOfEachKindOfLine(t *testing.T) {
	checkForm(t, mixedWeb(), mixedForm)
	checkText(t, "the second telling", written(mixedWeb()), mixedForm)
}

func TestFormOfTheEmptyWeb(t *testing.T) {
	checkForm(t, impl.Web{}, "")
	if got := impl.PrintWeb(impl.Web{Nodes: []impl.Node{}}); got != "" {
		t.Errorf("the empty list: %q", got)
	}
	checkUnread(t, "an empty line", "\n")
}

func TestFormOfSmallSteps(t *testing.T) {
	for line, s := range map[string]impl.Step{
		`end ""`:                           end(""),
		`end " "`:                          end(" "),
		`end "- on 0"`:                     end("- on 0"),
		`bad ""`:                           bad(""),
		`bad "\0a"`:                        bad("\n"),
		`ask - on 0 else 0 fall 0`:         {},
		`ask - on 0 else 0 fall -1`:        {Fall: -1},
		`ask - on 0 else 2 fall 1`:         {Else: 2, Fall: 1},
		`ask -- on 0 else 0 fall -1`:       {Asks: []string{"--"}, Fall: -1},
		`ask -1 on 0 else 0 fall 0`:        {Asks: []string{"-1"}},
		`ask b on 0 else 0 fall 2`:         {Asks: []string{"b"}, Fall: 2},
		`ask on,else on 1 else 1 fall 0`:   {Asks: []string{"on", "else"}, On: 1, Else: 1},
		`ask c,b,a on 2 else 1 fall -1`:    {Asks: []string{"c", "b", "a"}, On: 2, Else: 1, Fall: -1},
		`ask ",\,.,x on 3 else 0 fall -1`:  {Asks: []string{`"`, `\`, ".", "x"}, On: 3, Fall: -1},
		`ask a,b,c,d,e on 4 else 0 fall 0`: {Asks: []string{"a", "b", "c", "d", "e"}, On: 4},
	} {
		checkForm(t, made(thing("a", 1, s, end("A"), end("B"))), "node a 1\n"+line+"\nend \"A\"\nend \"B\"\n")
	}
}

func TestFormOfNamesAndNumbers(t *testing.T) {
	for _, name := range goodNames {
		checkForm(t, made(thing(name, 1, asks(0, name))), "node "+name+" 1\nask "+name+" on 0 else 0 fall -1\n")
	}
	for cost := 1; cost <= impl.MaxCost; cost++ {
		checkForm(t, made(thing("a", cost, end(""))), fmt.Sprintf("node a %d\nend \"\"\n", cost))
	}
	last := impl.MaxSteps - 1
	far := impl.Step{Cases: []impl.Case{{Text: "p", Goto: last}}, Else: last, Fall: last}
	checkForm(t, made(thing("a", 1, append([]impl.Step{far}, ends(last)...)...)),
		"node a 1\nask - on 0 else 19 fall 19\ncase 19 \"p\"\n"+strings.Repeat("end \"\"\n", last))
	checkForm(t, webOfSize(impl.MaxNodes), written(webOfSize(impl.MaxNodes)))
}

// Each byte has one way to be written, wherever it stands.
func TestFormOfEachByte(t *testing.T) {
	for b := range 256 {
		sign := fmt.Sprintf("\\%02x", b)
		itself := b >= 32 && b <= 126 && b != '"' && b != '\\'
		if itself {
			sign = string(rune(b))
		}
		raw := string([]byte{byte(b)})
		for _, frame := range []string{"*", "*p", "p*", "p*q", "**", "*5c", "*22*"} {
			text, shown := strings.ReplaceAll(frame, "*", raw), strings.ReplaceAll(frame, "*", sign)
			if b == '*' {
				text, shown = frame, frame
			}
			checkForm(t, made(thing("a", 1, end(text), bad(text))), "node a 1\nend \""+shown+"\"\nbad \""+shown+"\"\n")
			ask := impl.Step{Cases: []impl.Case{{Text: text}}}
			checkForm(t, made(thing("a", 1, ask)), "node a 1\nask - on 0 else 0 fall 0\ncase 0 \""+shown+"\"\n")
		}
		other := raw
		if itself {
			other = fmt.Sprintf("\\%02x", b)
		}
		checkUnread(t, "a byte in the other way", "node a 1\nend \""+other+"\"\n")
		checkUnread(t, "a byte in the other way", "node a 1\nend \"p"+other+"q\"\n")
		checkUnread(t, "a byte in the other way", "node a 1\nask - on 0 else 0 fall 0\ncase 0 \""+other+"\"\n")
	}
}

func TestFormOfLongTexts(t *testing.T) {
	for _, sign := range []string{"t", "\n", "\xff", "\"", " "} {
		most := end(strings.Repeat(sign, impl.MaxGive))
		long := impl.Step{Cases: []impl.Case{{Text: strings.Repeat(sign, impl.MaxText)}}}
		w := made(thing("a", 1, most, long))
		checkForm(t, w, written(w))
		over := made(thing("a", 1, end(most.Give+sign)))
		checkUnread(t, "a Give that is too long", written(over))
		over = made(thing("a", 1, impl.Step{Cases: []impl.Case{{Text: long.Cases[0].Text + sign}}}))
		checkUnread(t, "a Text that is too long", written(over))
	}
}

// greatWeb is a web whose form has so many bytes, some MaxForm: its last case fills it up.
func greatWeb(t *testing.T, size int) impl.Web {
	t.Helper()
	cases := make1(impl.MaxCases, func(int) impl.Case { return impl.Case{Text: rep(impl.MaxText)} })
	full := make1(impl.MaxSteps, func(int) impl.Step { return impl.Step{Cases: cases} })
	last := impl.Step{Cases: append(cases[:4:4], impl.Case{})}
	w := made(thing("a", 1, full...), thing("b", 1, full...), thing("c", 1, full...), thing("d", 1, full...),
		thing("e", 1, append(full[:12:12], last)...))
	last.Cases[4].Text = rep(size - len(written(w)))
	if len(written(w)) != size || impl.CheckWeb(w) != 0 {
		t.Fatalf("a form of %d bytes, not %d", len(written(w)), size)
	}
	return w
}

func TestFormAtTheLimit(t *testing.T) {
	for _, size := range []int{impl.MaxForm - 1, impl.MaxForm} {
		w := greatWeb(t, size)
		checkForm(t, w, written(w))
	}
	over := greatWeb(t, impl.MaxForm+1)
	checkText(t, "one byte too many", impl.PrintWeb(over), "")
	checkUnread(t, "one byte too many", written(over))

	// The bytes of the form count, not those of its texts: a newline is three.
	for size, fits := range map[int]bool{impl.MaxForm - 2: true, impl.MaxForm - 1: false} {
		w := greatWeb(t, size)
		steps := w.Nodes[4].Action.Steps
		text := &steps[len(steps)-1].Cases[4].Text
		*text = "\n" + (*text)[1:]
		if fits {
			checkForm(t, w, written(w))
		} else {
			checkText(t, "two bytes more", impl.PrintWeb(w), "")
			checkUnread(t, "two bytes more", written(w))
		}
	}
}

func TestFormOfTheGreatestWeb(t *testing.T) {
	w := webOfSize(impl.MaxNodes)
	cases := make1(impl.MaxCases, func(int) impl.Case { return impl.Case{Text: strings.Repeat("\xff", impl.MaxText)} })
	for i := range w.Nodes {
		w.Nodes[i].Action.Steps = make1(impl.MaxSteps, func(int) impl.Step { return impl.Step{Cases: cases} })
	}
	checkText(t, "the greatest web", impl.PrintWeb(w), "")
	checkUnread(t, "the greatest web", written(w))
}

func TestPrintWebRefuses(t *testing.T) {
	for what, w := range map[string]impl.Web{
		"too many nodes":  webOfSize(impl.MaxNodes + 1),
		"names as fall":   web("b", "a"),
		"a name twice":    web("a", "a"),
		"no cost":         broken(web("a", "b"), 1),
		"a cost below 0":  made(thing("a", -1, end(""))),
		"too great a one": made(thing("a", impl.MaxCost+1, end(""))),
		"no steps":        made(thing("a", 1)),
		"too many steps":  made(thing("a", 1, ends(impl.MaxSteps+1)...)),
	} {
		checkText(t, what, impl.PrintWeb(w), "")
	}
	for _, name := range badNames {
		checkText(t, "no name", impl.PrintWeb(web(name)), "")
		checkText(t, "no name", impl.PrintWeb(made(thing("a", 1, asks(0, "x", name)))), "")
	}
	for i, c := range stepCases() {
		w := impl.Web{Nodes: []impl.Node{node("a"), {Name: "b", Action: one(c.step)}, node("c")}}
		want := ""
		if c.want {
			want = written(w)
		}
		checkText(t, fmt.Sprintf("step %d", i), impl.PrintWeb(w), want)
	}
}
