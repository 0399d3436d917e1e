package tests

import (
	"strings"
	"testing"

	"loop.example/kilnweb/impl"
)

// smallTalk is a web and a state, and what is answered to them.
const (
	smallTalk    = "web\nnode a 1\nend \"A\"\nnode b 2\nend \"B\"\n.\nstart a b\n"
	smallAnswers = "ok 2\nok\n"
)

// checkBad: a line is no command, with a state or without, and changes nothing.
func checkBad(t *testing.T, line string) {
	t.Helper()
	checkAnswers(t, line+"\n", "bad\n")
	checkAnswers(t, smallTalk+line+"\nready\nclean a\n", smallAnswers+"bad\na b\ncode 0 units 1 cost 1 a=\"A()\"\n")
	checkAnswers(t, smallTalk+"do a\n"+line, smallAnswers+"ok\nbad\n")
}

func TestSessionLines(t *testing.T) {
	for _, c := range []struct{ text, want string }{
		{"", ""},
		{"\n", "bad\n"},
		{"\n\n", allBad(2)},
		{" ", "bad\n"},
		{"x", "bad\n"},
		{"x\n", "bad\n"},
		{"x\n\n", allBad(2)},
		{"\nx", allBad(2)},
		{"start a", "ok\n"},
		{"start a\nready", "ok\n-\n"},
		{"start a\nready\n", "ok\n-\n"},
		{"start a\n\nready", "ok\nbad\n-\n"},
		{"start a\r\nready\r\n", "no\nbad\n"},
		{"\x00\n\xff\n", allBad(2)},
	} {
		checkAnswers(t, c.text, c.want)
	}
}

// Each command with a space too many, with a word too many or too few, and with its word changed.
func TestSessionWordsThatAreNone(t *testing.T) {
	names := []string{"start a", "clean a", "work 1 a"}
	single := []string{"web", "ready", "told", "circle", "stuck"}
	named := []string{"do a", "waits a", "uses a", "why a"}
	for _, line := range append(append(append(named, single...), names...), "all 0") {
		checkBad(t, " "+line)
		checkBad(t, line+" ")
		checkBad(t, "  "+line)
		checkBad(t, line+"  ")
		checkBad(t, strings.Replace(line, " ", "  ", 1)+" ")
		checkBad(t, "x"+line)
		checkBad(t, strings.ToUpper(line))
		checkBad(t, "\t"+line)
		if strings.Contains(line, " ") {
			checkBad(t, strings.Replace(line, " ", "  ", 1))
			checkBad(t, strings.Replace(line, " ", "\t", 1))
			word, _, _ := strings.Cut(line, " ")
			checkBad(t, word)
			checkBad(t, line+"  0")
			checkBad(t, line+" 0 ")
			checkBad(t, line+"  a")
		}
	}
	for _, line := range single {
		checkBad(t, line+" a")
		checkBad(t, line+" .")
		checkBad(t, line+"\t")
		checkBad(t, line+"\r")
	}
	for _, line := range named {
		checkBad(t, line+" b")
		checkBad(t, line+" a")
	}
	for _, line := range []string{"work 1", "work a", "work a 1", "work a a", "all a", "all 0 a", "all a 0", "web .", ".", "..", ". .", "-", " ", "  ", "a", "ok", "bad", "node a 1", "end \"\"", "map", "act", "read"} {
		checkBad(t, line)
	}
}

// A name is one word, whatever it is; whether it is a name of the web is seen behind that.
func TestSessionNames(t *testing.T) {
	for _, name := range []string{"-", ",", "a,b", ".", "web", "A", "gone", "a\t", "\ta", "a\r", "\x00", "\xff", "\x7f", "ä", `"a"`, "0", rep(impl.MaxName), rep(impl.MaxName + 1), rep(4000)} {
		text := "do " + name + "\nwaits " + name + "\nuses " + name + "\nwhy " + name + "\nready\n"
		checkAnswers(t, smallTalk+text, smallAnswers+"no\n-\n-\n-\na b\n")
	}
	for _, name := range badNames {
		if strings.Contains(name, " ") || strings.Contains(name, "\n") || name == "" {
			continue
		}
		for _, words := range []string{name, "a " + name, name + " a"} {
			checkAnswers(t, smallTalk+"start "+words+"\nclean "+words+"\nwork 1 "+words+"\nready\n",
				smallAnswers+"no\ncode 9 units 0 cost 0\ncode 9 ticks 0 slots 0 chain 0\na b\n")
		}
	}
	for _, name := range goodNames {
		web := "web\nnode " + name + " 3\nask - on 0 else 1 fall 0\nend \"\"\n.\n"
		checkAnswers(t, web+"start "+name+"\ndo "+name+"\nready\ntold\ndo "+name+"\ntold\nclean "+name+"\nwork 1 "+name+"\n",
			"ok 1\nok\nok\n"+name+"\ncode 2 units 1 cost 3 "+name+"?\nok\ncode 0 units 2 cost 6 "+name+"=\"()\"\n"+
				"code 0 units 2 cost 6 "+name+"=\"()\"\ncode 0 ticks 6 slots 2 chain 2\n")
	}
}

func TestSessionNumbers(t *testing.T) {
	for _, number := range []string{"0", "1", "2", "9", "10", "59", "60", "99", "100", "999", "1000", "9999"} {
		checkAnswers(t, smallTalk+"all "+number+"\nall 0 "+number+"\nall "+number+" 0\ntold\n",
			smallAnswers+"done 2\ndone 2\ndone 2\ncode 0 units 2 cost 3 a=\"A()\" b=\"B()\"\n")
		want := "code 9 ticks 0 slots 0 chain 0\n"
		switch number {
		case "1":
			want = "code 0 ticks 3 slots 2 chain 1\n"
		case "2", "9", "10", "59", "60":
			want = "code 0 ticks 2 slots 2 chain 1\n"
		}
		checkAnswers(t, smallTalk+"work "+number+" a b\n", smallAnswers+want)
	}
	for _, number := range []string{"00", "01", "0000", "0001", "10000", "12345", "00000", "99999", "-1", "-0", "+1", "+0", "-123",
		"1.", "1.0", ".1", "1,2", "1e3", "0x1", "1_0", "1a", "a1", "\uff11", "\u0661", "\"1\"", "1\t", "1\r", "-", strings.Repeat("9", 40), "18446744073709551617"} {
		for _, line := range []string{"all " + number, "all 0 " + number, "all " + number + " 0", "all 1 " + number + " 1", "work " + number + " a", "work " + number} {
			checkBad(t, line)
		}
	}
}

func TestSessionPicksOfManyWords(t *testing.T) {
	checkAnswers(t, smallTalk+"all"+strings.Repeat(" 1", 9000)+"\n", smallAnswers+"done 2\n")
	checkAnswers(t, smallTalk+"all"+strings.Repeat(" 1", 9000)+" x\n", smallAnswers+"bad\n")
	checkAnswers(t, smallTalk+"start"+strings.Repeat(" a", 9000)+"\nready\n", smallAnswers+"no\na b\n")
}

func TestSessionLinesOfWebs(t *testing.T) {
	form := "node a 1\nend \"A\"\n"
	for _, c := range []struct{ text, want string }{
		{"web\n.", "ok 0\n"},
		{"web\n.\n", "ok 0\n"},
		{"web\n" + form + ".", "ok 1\n"},
		{"web\n" + form + ".\nready", "ok 1\nbad\n"},
		// Without the line that ends them all lines are a web's.
		{"web", "bad\n"},
		{"web\n", "bad\n"},
		{"web\n\n", "bad\n"},
		{"web\n" + form, "bad\n"},
		{"web\nnode a 1\nend \"A\"", "bad\n"},
		{"web\n" + form + "start a\nclean a\nwork 1 a\n", "bad\n"},
		{"web\n" + form + " .\nstart a\n", "bad\n"},
		{"web\n" + form + ". \nstart a\n", "bad\n"},
		{"web\n" + form + "..\nstart a\n", "bad\n"},
		{"web\n" + form + ".\r\nstart a\n", "bad\n"},
		{"web\nweb\nweb\n", "bad\n"},
		{"start a\nweb\nready", "ok\nbad\n"},
		{"web\n.\nweb\n" + form, "ok 0\nbad\n"},
		// A web is ended once.
		{"web\n.\n.\n", "ok 0\nbad\n"},
		{".\nweb\n.\n", "bad\nok 0\n"},
		{"web\nweb\n.\n.\n", "no\nbad\n"},
		{"web\n" + form + ".\nweb\n.\nclean a", "ok 1\nok 0\ncode 0 units 0 cost 0 a!\"no a\"\n"},
		// Each of its lines is ParseWeb's, as it is.
		{"web\n\n.\n", "no\n"},
		{"web\n" + form + "\n.\n", "no\n"},
		{"web\n\n" + form + ".\n", "no\n"},
		{"web\n .\n.\n", "no\n"},
		{"web\nready\n.\n", "no\n"},
		{"web\n" + form + "node b 1\n.\n", "no\n"},
		{"web\nnode a  1\nend \"A\"\n.\n", "no\n"},
		{"web\nnode a 1\r\nend \"A\"\r\n.\n", "no\n"},
		{"web\nnode . 1\nask web on 0 else 1 fall -1\nend \".\"\nnode web 1\nend \"  .  \"\n.\nclean .\n",
			"ok 2\ncode 0 units 3 cost 3 .=\".(  .  ())\"\n"},
		// With words behind it, it is no command, and takes no lines.
		{"web x\n.\n", allBad(2)},
		{"web x\n" + form + ".\n", allBad(4)},
		{"web .\nready\n", allBad(2)},
		{"web \n.\n", allBad(2)},
		{" web\n.\n", allBad(2)},
	} {
		checkAnswers(t, c.text, c.want)
	}
}

func TestSessionOfGreatWebs(t *testing.T) {
	full := "web\n" + written(webOfSize(impl.MaxNodes)) + ".\n"
	over := "web\n" + written(webOfSize(impl.MaxNodes+1)) + ".\n"
	checkAnswers(t, full+"clean a59\n"+over+"clean a59 a60\n",
		"ok 60\ncode 0 units 1 cost 1 a59="+quoted(tellOne(webOfSize(impl.MaxNodes), "a59"))+"\nno\n"+
			"code 0 units 1 cost 1 a59="+quoted(tellOne(webOfSize(impl.MaxNodes), "a59"))+" a60!\"no a60\"\n")
}

// tellOne is the text of the only result.
func tellOne(w impl.Web, root string) string {
	return impl.Clean(w, []string{root}).Results[0].Text
}

const tooLong = "too long\n"

func TestSessionOfManyBytes(t *testing.T) {
	for _, c := range []struct{ text, want string }{
		{strings.Repeat("x", impl.MaxSession-1), "bad\n"},
		{strings.Repeat("x", impl.MaxSession), "bad\n"},
		{strings.Repeat("x", impl.MaxSession+1), tooLong},
		{strings.Repeat("x", impl.MaxSession-1) + "\n", "bad\n"},
		{strings.Repeat("x", impl.MaxSession) + "\n", tooLong},
		{strings.Repeat("x", 10*impl.MaxSession), tooLong},
		{strings.Repeat(" ", impl.MaxSession), "bad\n"},
		{strings.Repeat("\n", impl.MaxSession), tooLong},
		{strings.Repeat("\n", impl.MaxSession+1), tooLong},
	} {
		checkAnswers(t, c.text, c.want)
	}
	head := smallTalk + "ready\nclean "
	fill := func(size int) string { return head + strings.Repeat("\xc3", size-len(head)) }
	checkAnswers(t, fill(impl.MaxSession), smallAnswers+"a b\ncode 9 units 0 cost 0\n")
	checkAnswers(t, fill(impl.MaxSession+1), tooLong)

	// The bytes of a web's lines count, too.
	web := func(size int) string {
		text := "web\n" + strings.Repeat("node a 1\n", 2000)
		return text + strings.Repeat("x", size-len(text)-len("\n.\nclean a\n")) + "\n.\nclean a\n"
	}
	checkAnswers(t, web(impl.MaxSession), "no\ncode 0 units 0 cost 0 a!\"no a\"\n")
	checkAnswers(t, web(impl.MaxSession+1), tooLong)
}

func TestSessionOfManyCommands(t *testing.T) {
	most := impl.MaxLines
	form := "web\nnode a 1\nend \"A\"\n.\n"
	for _, c := range []struct{ line, answer string }{
		{"x\n", "bad\n"}, {"\n", "bad\n"}, {"start a\n", "ok\n"}, {"start a a\n", "no\n"}, {"ready\n", "bad\n"}, {".\n", "bad\n"},
		{"clean a\n", "code 0 units 0 cost 0 a!\"no a\"\n"}, {"web x\n", "bad\n"}, {"web\n.\n", "ok 0\n"}, {form, "ok 1\n"}, {"web\nx\ny\n\n.\n", "no\n"},
	} {
		checkAnswers(t, strings.Repeat(c.line, most), strings.Repeat(c.answer, most))
		checkAnswers(t, strings.Repeat(c.line, most+1), tooLong)
		checkAnswers(t, strings.Repeat(c.line, most-1)+"start a", strings.Repeat(c.answer, most-1)+"ok\n")
		checkAnswers(t, strings.Repeat(c.line, most)+"start a", tooLong)
		checkAnswers(t, strings.Repeat(c.line, most)+"\n", tooLong)
		// Whatever is missing, the lines behind it are one command's.
		checkAnswers(t, strings.Repeat(c.line, most-1)+"web\n"+strings.Repeat("x\n", 1000), strings.Repeat(c.answer, most-1)+"bad\n")
		checkAnswers(t, strings.Repeat(c.line, most)+"web\n", tooLong)
		checkAnswers(t, strings.Repeat(c.line, most)+"web\n.\n", tooLong)
		checkAnswers(t, "web\n"+strings.Repeat("x\n", 1000)+".\n"+strings.Repeat(c.line, most-1), "no\n"+strings.Repeat(c.answer, most-1))
		checkAnswers(t, "web\n"+strings.Repeat("x\n", 1000)+".\n"+strings.Repeat(c.line, most), tooLong)
	}
	checkAnswers(t, "web\n"+strings.Repeat("x\n", 9000), "bad\n")
	checkAnswers(t, "web\n"+strings.Repeat("\n", 9000)+".", "no\n")
}
