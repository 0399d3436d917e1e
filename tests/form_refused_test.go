package tests

import (
	"strings"
	"testing"

	"loop.example/kilnweb/impl"
)

// change is a piece of a form, and what comes in its place.
type change struct {
	what, old, new string
}

// checkChanged: the form with each change is read no more. A piece is the first of its kind.
func checkChanged(t *testing.T, form string, changes ...change) {
	t.Helper()
	if _, read := impl.ParseWeb(form); !read {
		t.Fatalf("%q is not read", form)
	}
	for _, c := range changes {
		if !strings.Contains(form, c.old) {
			t.Fatalf("%s: no %q to be changed", c.what, c.old)
		}
		checkUnread(t, c.what, strings.Replace(form, c.old, c.new, 1))
	}
}

func TestUnreadLines(t *testing.T) {
	checkChanged(t, mixedForm,
		change{"no newline at the end", "end \"C\"\n", "end \"C\""},
		change{"two newlines at the end", "end \"C\"\n", "end \"C\"\n\n"},
		change{"an empty line at the start", "node a 2\n", "\nnode a 2\n"},
		change{"an empty line between nodes", "node b ", "\nnode b "},
		change{"an empty line between steps", "end \"A\"\n", "\nend \"A\"\n"},
		change{"an empty line ahead of a case", "case 4", "\ncase 4"},
		change{"a line of a space", "node b ", " \nnode b "},
		change{"another sign for newlines", "node a 2\n", "node a 2\r\n"},
		change{"two lines in one", "node a 2\n", "node a 2 "},
		change{"a line cut in two", "ask b,c on", "ask b,c\non"},
		change{"a space ahead of a line", "node b ", " node b "},
		change{"a line of no known word", "end \"A\"\n", "end \"A\"\nweb\n"},
		change{"a known word with a capital", "end \"A\"", "End \"A\""},
		change{"a known word in capitals", "end \"A\"", "END \"A\""},
		change{"a known word cut short", "node c", "nod c"},
		change{"a longer word", "node c", "nodes c"},
		change{"a point behind it", "end \"C\"\n", "end \"C\"\n.\n"},
		change{"no first node", "node a 2\n", ""},
		change{"no steps", "bad \"\"\n", ""},
		change{"no last steps", "ask b on 0 else 1 fall 1\nend \"C\"\n", ""},
		change{"a case behind a node", "node b 20\n", "node b 20\ncase 0 \"\"\n"},
		change{"a case behind a good end", "end \"A\"\n", "end \"A\"\ncase 0 \"\"\n"},
		change{"a case behind a bad end", "bad \"not this\"\n", "bad \"not this\"\ncase 0 \"\"\n"},
	)
	for _, text := range []string{
		" ", "x", "node", "node a", "node a 1", "node a 1\n", ".\n", "end \"\"\n", "bad \"\"\n", "\x00", "\"\"\n",
		"ask - on 0 else 0 fall 0\n", "case 0 \"\"\n", "case 0 \"\"\nnode a 1\nend \"\"\n", strings.Repeat("\n", impl.MaxForm),
		strings.Repeat("a", impl.MaxForm), strings.Repeat("node a 1\n", 1000), strings.Repeat("end \"\"\n", 1000),
	} {
		checkUnread(t, "no form", text)
	}
}

// Every line is one of so many words with one space between, and no more.
func TestUnreadWords(t *testing.T) {
	lines := strings.SplitAfter(mixedForm, "\n")
	for i, line := range lines[:len(lines)-1] {
		with := func(changed string) string {
			return strings.Join(lines[:i], "") + changed + strings.Join(lines[i+1:], "")
		}
		bare := strings.TrimSuffix(line, "\n")
		checkUnread(t, "a space at the end", with(bare+" \n"))
		checkUnread(t, "a space at the start", with(" "+line))
		checkUnread(t, "a word too many", with(bare+" 0\n"))
		checkUnread(t, "a text too many", with(bare+" \"\"\n"))
		checkUnread(t, "a tab at the end", with(bare+"\t\n"))
		words := strings.Split(bare, " ")
		if strings.Contains(bare, `"`) {
			// Spaces between quotes are of the text.
			words = strings.SplitN(bare, " ", strings.Count(bare[:strings.Index(bare, `"`)], " ")+1)
		}
		for at := range words {
			ahead, behind := strings.Join(words[:at], " "), strings.Join(words[at+1:], " ")
			checkUnread(t, "a word too few", with(strings.TrimSpace(ahead+" "+behind)+"\n"))
			checkUnread(t, "a word that is empty", with(strings.Join([]string{ahead, "", behind}, " ")+"\n"))
			if at > 0 {
				checkUnread(t, "two spaces", with(ahead+"  "+strings.Join(words[at:], " ")+"\n"))
				checkUnread(t, "a tab between", with(ahead+"\t"+strings.Join(words[at:], " ")+"\n"))
				checkUnread(t, "no space", with(ahead+strings.Join(words[at:], " ")+"\n"))
			}
		}
	}
	checkChanged(t, mixedForm,
		change{"another word for on", " on 1", " at 1"},
		change{"another word for else", " else 2", " on 2"},
		change{"another word for fall", " fall -1", " else -1"},
		change{"words in another order", "on 1 else 2", "else 2 on 1"},
		change{"fall ahead of else", "else 2 fall -1", "fall -1 else 2"},
		change{"quotes around a name", "node a 2", "node \"a\" 2 "},
	)
}

// greatNumbers are too great for any place or cost, and some for any int.
var greatNumbers = []string{
	"20", "21", "99", "100", "2147483648", "4294967296", "4294967297", "9223372036854775807", "9223372036854775808",
	"18446744073709551615", "18446744073709551616", "18446744073709551617", "340282366920938463463374607431768211456",
	"1" + strings.Repeat("0", 400), "-9223372036854775808", "-9223372036854775809", "-18446744073709551617",
}

// oddNumbers are no decimals, though some would read them.
var oddNumbers = []string{
	"", "-", "+", "-0", "+0", "+1", "--1", "00", "01", "001", "-01", "1.", "1.0", "1e0", "0x1", "0b1", "0o1", "1_0", "0_1", "1,0",
	"one", "a", "1a", "\"1\"", "\u0661", "\xff", "1\x00", "NaN", "Inf",
}

func TestUnreadNumbers(t *testing.T) {
	const form = "node a 1\nask b,c on 1 else 1 fall 1\ncase 1 \"\"\nend \"\"\n"
	for _, n := range append(greatNumbers, oddNumbers...) {
		if n != "20" {
			checkChanged(t, form, change{"a cost", "a 1\n", "a " + n + "\n"})
		}
		checkChanged(t, form,
			change{"an on", "on 1", "on " + n},
			change{"an else", "else 1", "else " + n},
			change{"a fall", "fall 1", "fall " + n},
			change{"a case", "case 1", "case " + n},
		)
	}
	checkChanged(t, form,
		change{"a cost of 0", "a 1", "a 0"},
		change{"a cost below 0", "a 1", "a -1"},
		change{"an on below 0", "on 1", "on -1"},
		change{"an on that is no place of an ask", "on 1", "on 2"},
		change{"an on without asks", "b,c on 1", "- on 1"},
		change{"an else below 0", "else 1", "else -1"},
		change{"an else that is no step", "else 1", "else 2"},
		change{"a fall below -1", "fall 1", "fall -2"},
		change{"a fall that is no step", "fall 1", "fall 2"},
		change{"a case below 0", "case 1", "case -1"},
		change{"a case that is no step", "case 1", "case 2"},
	)
}

func TestUnreadNames(t *testing.T) {
	const form = "node a 1\nask b,c on 0 else 1 fall -1\nend \"A\"\nnode b 1\nend \"B\"\n"
	checkChanged(t, form,
		change{"an empty name at the end", "b,c", "b,"},
		change{"an empty name at the start", "b,c", ",c"},
		change{"an empty name between", "b,c", "b,,c"},
		change{"empty names alone", "b,c", ","},
		change{"no names", "b,c ", " "},
		change{"a name behind -", "b,c", "-,c"},
		change{"a name ahead of -", "b,c", "b,-"},
		change{"- twice", "b,c", "-,-"},
		change{"a name twice", "b,c", "b,b"},
		change{"too many names", "b,c", "b,c,d,e,f,g"},
		change{"names in quotes with a space", "b,c", "\"b c\""},
		change{"names out of order", "node b", "node A"},
		change{"names out of order", "node a", "node bb"},
		change{"a node twice", "node b", "node a"},
		change{"an empty name", "node b 1", "node  1"},
		change{"no name at all", "node b 1", "node 1"},
		change{"two names", "node b 1", "node b c 1"},
	)
	for _, name := range badNames {
		checkChanged(t, form, change{"no name", "node a ", "node " + name + " "})
		// The form has `-` for no names, and `,` between two.
		if name != "-" && name != "a," && name != "" {
			checkChanged(t, form, change{"no name", "ask b,c", "ask " + name}, change{"no name", "ask b,c", "ask " + name + ",c"})
		}
	}
}

func TestUnreadQuotes(t *testing.T) {
	const form = "node a 1\nask - on 0 else 0 fall 0\ncase 0 \"p\"\nend \"p\"\nbad \"p\"\n"
	texts := []string{
		``, `p`, `"`, `"p`, `p"`, `""p`, `p""`, `"""`, `""""`, `"p"q"`, `"p" "q"`, `"p"q`, `'p'`, "`p`", `'"p"'`, ` "p"`, `"p" `, `"p",`,
		`\22p\22`, `"p\22`, `"\"`, `"\\"`, `"\"p"`, `"\n"`, `"\0"`, `"\0`, `"\00`, `"\0 "`, `"\ 0"`, `"\x0a"`, `"\012345`, `"\u000a"`,
		`"\0A"`, `"\0F"`, `"\A0"`, `"\fF"`, `"\Ff"`, `"\FF"`, `"\g0"`, `"\0g"`, `"\+1"`, `"\-1"`, `"\0_"`, `"\_0"`, `"\0x"`, `"\/0"`, `"\:0"`, `"\0@"`,
		"\"\\0`\"", `"\70"`, `"\20"`, `"\7e"`, `"\21"`, `"\23"`, `"\5b"`, `"\5d"`, `"p\"`, `"p\0"`, `"\00\"`, `"\00\0"`, `"\0\00"`, `"\0\0"`,
		"\"\t\"", "\"\r\"", "\"\x00\"", "\"\x1f\"", "\"\x7f\"", "\"\x80\"", "\"\xff\"", "\"\u00e4\"", "\u201cp\u201d", "\"\n\"", "\"p\n\"",
	}
	for _, q := range texts {
		checkChanged(t, form,
			change{"a case", "case 0 \"p\"", "case 0 " + q},
			change{"an end", "end \"p\"", "end " + q},
			change{"a bad end", "bad \"p\"", "bad " + q},
		)
	}
	checkChanged(t, form,
		change{"no text", "case 0 \"p\"", "case 0"},
		change{"no text", "end \"p\"", "end"},
		change{"no text", "bad \"p\"", "bad"},
		change{"a text ahead of the number", "case 0 \"p\"", "case \"p\" 0"},
		change{"no space ahead of the text", "case 0 \"p\"", "case 0\"p\""},
		change{"no space ahead of the text", "end \"p\"", "end\"p\""},
	)
}

// A text that would be the form of a web, if that were valid.
func TestUnreadWebs(t *testing.T) {
	for what, w := range map[string]impl.Web{
		"too many nodes": webOfSize(impl.MaxNodes + 1),
		"names as fall":  web("b", "a"),
		"a name twice":   web("a", "a"),
		"the beginning":  web("ab", "a"),
		"no cost":        broken(web("a", "b"), 1),
		"no steps":       made(thing("a", 1), node("b")),
		"too many steps": made(thing("a", 1, ends(impl.MaxSteps+1)...)),
		"too many asks":  made(thing("a", 1, asks(0, make1(impl.MaxAsks+1, nameNo)...))),
		"too many cases": made(thing("a", 1, impl.Step{Cases: make([]impl.Case, impl.MaxCases+1)})),
		"a long name":    web(rep(impl.MaxName + 1)),
		"a long ask":     made(thing("a", 1, asks(0, rep(impl.MaxName+1)))),
	} {
		if impl.CheckWeb(w) == 0 {
			t.Fatalf("%s: it is valid", what)
		}
		checkUnread(t, what, written(w))
	}
	for i, c := range stepCases() {
		form := written(impl.Web{Nodes: []impl.Node{node("a"), {Name: "b", Action: one(c.step)}, node("c")}})
		// What a step must not have besides is not in its form.
		if c.step.End || c.step.Bad || c.step.Give != "" {
			continue
		}
		if !c.want {
			checkUnread(t, "a step that is not valid", form)
		} else if _, read := impl.ParseWeb(form); !read {
			t.Errorf("step %d is not read", i)
		}
	}
}
