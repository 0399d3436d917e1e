package tests

import (
	"fmt"
	"math/rand"
	"regexp"
	"slices"
	"strconv"
	"strings"
	"sync"
	"testing"

	"loop.example/kilnweb/impl"
)

// The lines of a session, told a second time as patterns; a web's command is all of its lines.
const (
	fewDigits = `(?:0|[1-9][0-9]{0,3})`
	someWords = `(?: [^ ]+)+`
)

var (
	aCommand    = regexp.MustCompile(`\A(?:(?s:web\n(?:.*?\n)??\.(?:\n|\z)|web\n.*\z)|[^\n]*(?:\n|\z))`)
	commandLine = regexp.MustCompile(`^(?:web|ready|told|circle|stuck|(?:do|waits|uses|why) [^ ]+|(?:start|clean)` + someWords +
		`|all(?: ` + fewDigits + `)+|work ` + fewDigits + someWords + `)$`)
	wholeWeb = regexp.MustCompile(`\Aweb\n((?s:(?:.*\n)?))\.\n?\z`)
	goodName = regexp.MustCompile(`^[!-+\--~]{1,20}$`)
)

// commandsOf cuts a session into its commands.
func commandsOf(text string) []string {
	var out []string
	for text != "" {
		command := aCommand.FindString(text)
		out = append(out, command)
		text = text[len(command):]
	}
	return out
}

// talk is a session that is worked through by what the tests tell of the other chapters; without jobs there is no state.
type talk struct {
	web   impl.Web
	roots []string
	jobs  *jobs
}

func areRoots(names []string) bool {
	for i, name := range names {
		if !goodName.MatchString(name) || name == "-" || slices.Contains(names[:i], name) {
			return false
		}
	}
	return len(names) <= impl.MaxRoots
}

func joined(names []string) string {
	if len(names) == 0 {
		return "-"
	}
	return strings.Join(names, " ")
}

func toldBy(o impl.Outcome) string {
	out := fmt.Sprintf("code %d units %d cost %d", o.Code, o.Units, o.Cost)
	for _, r := range o.Results {
		switch {
		case !r.Over:
			out += fmt.Sprintf(" %s?", r.Name)
		case r.Fail:
			out += fmt.Sprintf(" %s!%s", r.Name, quoted(r.Text))
		default:
			out += fmt.Sprintf(" %s=%s", r.Name, quoted(r.Text))
		}
	}
	if len(o.Chain) > 0 {
		out += " circle " + joined(o.Chain)
	}
	return out
}

func (x *talk) read(command string) string {
	m := wholeWeb.FindStringSubmatch(command)
	if m == nil {
		return "bad"
	}
	x.jobs = nil
	w, read := readBack(m[1])
	if !read {
		return "no"
	}
	x.web = w
	return fmt.Sprintf("ok %d", len(w.Nodes))
}

func (x *talk) begin(names []string) string {
	if !areRoots(names) {
		return "no"
	}
	x.roots = names
	x.jobs = begun(x.web, names)
	return "ok"
}

func (x *talk) do(name string) string {
	if !slices.Contains(x.jobs.ready(), name) {
		return "no"
	}
	x.jobs.do(name)
	return "ok"
}

func (x *talk) all(words []string) string {
	picks := make1(len(words), func(i int) int { return numbered(words[i]) })
	done := worked(x.web, x.roots, pickBy(picks))
	x.jobs = &done
	return fmt.Sprintf("done %d", len(done.done))
}

func (x *talk) told() string {
	o := x.jobs.outcome(x.roots)
	if o.Code == 1 && len(x.jobs.ready()) > 0 {
		o.Code, o.Chain = 2, nil
	}
	return toldBy(o)
}

func (x *talk) clean(names []string) string {
	if !areRoots(names) {
		return "code 9 units 0 cost 0"
	}
	all := worked(x.web, names, func(int) int { return 0 })
	return toldBy(all.outcome(names))
}

func (x *talk) work(number string, names []string) string {
	workers := numbered(number)
	if !areRoots(names) || workers < 1 || workers > impl.MaxWorkers {
		return "code 9 ticks 0 slots 0 chain 0"
	}
	p := planned(x.web, names, workers)
	return fmt.Sprintf("code %d ticks %d slots %d chain %d", p.Code, p.Ticks, len(p.Slots), len(p.Chain))
}

func (x *talk) waits(name string) []string {
	if x.jobs.all[name] == nil {
		return nil
	}
	return x.jobs.waits(name)
}

// answer tells what a command is answered.
func (x *talk) answer(command string) string {
	line, _, _ := strings.Cut(command, "\n")
	if !commandLine.MatchString(line) {
		return "bad"
	}
	words := strings.Split(line, " ")
	switch words[0] {
	case "web":
		return x.read(command)
	case "start":
		return x.begin(words[1:])
	case "clean":
		return x.clean(words[1:])
	case "work":
		return x.work(words[1], words[2:])
	}
	if x.jobs == nil {
		return "bad"
	}
	switch words[0] {
	case "ready":
		return joined(x.jobs.ready())
	case "do":
		return x.do(words[1])
	case "all":
		return x.all(words[1:])
	case "told":
		return x.told()
	case "waits":
		return joined(x.waits(words[1]))
	case "uses":
		return joined(x.jobs.uses(words[1]))
	case "why":
		return joined(x.jobs.why(words[1]))
	case "circle":
		return joined(least(x.jobs.circles()))
	}
	return joined(x.jobs.stuck(x.jobs.circles()))
}

// answersTo tells the answers to commands, each with its newline.
func answersTo(commands []string) []string {
	var x talk
	return make1(len(commands), func(i int) string { return x.answer(commands[i]) + "\n" })
}

// answered tells the definition of Session a second time.
func answered(text string) string {
	commands := commandsOf(text)
	if len(text) > impl.MaxSession || len(commands) > impl.MaxLines {
		return tooLong
	}
	return strings.Join(answersTo(commands), "")
}

func someWord(r *rand.Rand, size int) string {
	if r.Intn(15) == 0 {
		return []string{"gone", "-", "a,b", "\xff", "a00\t", "0", ".", rep(impl.MaxName + 1)}[r.Intn(8)]
	}
	return nameNo(r.Intn(size))
}

func someNumber(r *rand.Rand) string {
	if r.Intn(20) == 0 {
		return []string{"00", "-1", "10000", "x", "+1", "61", "9999"}[r.Intn(7)]
	}
	return strconv.Itoa(r.Intn(7))
}

func webCommand(r *rand.Rand, w impl.Web) string {
	form := written(w)
	if r.Intn(6) == 0 {
		form = spoiltForm(r, form)
	}
	return "web\n" + form + ".\n"
}

// someLine gives a command that has one line.
func someLine(r *rand.Rand, size int) string {
	many := func(word func() string) string {
		return strings.Join(make1(1+r.Intn(3), func(int) string { return word() }), " ")
	}
	name := func() string { return someWord(r, size) }
	number := func() string { return someNumber(r) }
	switch kind := r.Intn(24); {
	case kind < 2:
		return "start " + many(name)
	case kind < 4:
		return "ready"
	case kind < 11:
		return "do " + name()
	case kind < 12:
		return "all " + many(number)
	case kind < 14:
		return "told"
	case kind < 15:
		return "clean " + many(name)
	case kind < 16:
		return "work " + number() + " " + many(name)
	case kind < 18:
		return "waits " + name()
	case kind < 19:
		return "uses " + name()
	case kind < 20:
		return "why " + name()
	case kind < 21:
		return "circle"
	case kind < 22:
		return "stuck"
	}
	return []string{"", " ", "x", "ready ", " told", "start", "do", "all", "work 1", ".", "why a b", "web x"}[r.Intn(12)]
}

// someSession begins with a web and roots, so that most commands have something to tell.
func someSession(r *rand.Rand) string {
	size := 1 + r.Intn(6)
	var out strings.Builder
	w, roots := someWork(r, size)
	out.WriteString(webCommand(r, w) + "start " + strings.Join(roots, " ") + "\n")
	for range r.Intn(40) {
		if r.Intn(25) == 0 {
			w, _ = someWork(r, size)
			out.WriteString(webCommand(r, w))
			continue
		}
		out.WriteString(someLine(r, size) + "\n")
	}
	if r.Intn(8) == 0 {
		out.WriteString(strings.TrimSuffix(webCommand(r, w), ".\n"))
	}
	if r.Intn(4) == 0 {
		return strings.TrimSuffix(out.String(), "\n")
	}
	return out.String()
}

// noteAnswers counts what is answered, the names of all kinds as one.
func noteAnswers(seen map[string]int, answers string) {
	for _, line := range strings.Split(answers, "\n") {
		word, rest, _ := strings.Cut(line, " ")
		switch word {
		case "ok", "no", "bad", "-", "done":
			seen[word]++
		case "code":
			seen[word+rest[:1]]++
			for _, mark := range []string{`="`, `!"`, "?", "circle", "ticks", "spent"} {
				if strings.Contains(rest, mark) {
					seen[mark]++
				}
			}
		default:
			seen["names"]++
		}
	}
}

// Promise 13: the answers to the first commands do not hang on those behind them.
func TestPromise13(t *testing.T) {
	r := rand.New(rand.NewSource(35))
	seen := map[string]int{}
	for range 1500 {
		text := someSession(r)
		commands := commandsOf(text)
		answers := answersTo(commands)
		noteAnswers(seen, strings.Join(answers, ""))
		for first := range len(commands) + 1 {
			checkAnswers(t, strings.Join(commands[:first], ""), strings.Join(answers[:first], ""))
		}
		if t.Failed() {
			return
		}
	}
	for _, kind := range []string{"ok", "no", "bad", "-", "done", "names", "code0", "code1", "code2", "code9", `="`, `!"`, "?", "circle", "ticks", "spent"} {
		if seen[kind] < 200 {
			t.Errorf("too few answers of a kind: %v", seen)
		}
	}
}

// Promise 13, where the text is too long with the commands behind: without these it is answered.
func TestPromise13TooLong(t *testing.T) {
	r := rand.New(rand.NewSource(36))
	for range 20 {
		text := strings.TrimSuffix(someSession(r), "\n") + "\n"
		if commands := commandsOf(text); strings.HasPrefix(commands[len(commands)-1], "web\n") {
			text += ".\n"
		}
		commands := commandsOf(text)
		left := impl.MaxLines - len(commands)
		most := text + strings.Repeat("ready\n", left)
		checkAnswers(t, most, answered(most))
		checkAnswers(t, most+"ready\n", tooLong)
		checkAnswers(t, text+strings.Repeat("x", impl.MaxSession), tooLong)
		checkAnswers(t, text, answered(text))
		if !strings.HasPrefix(impl.Session(most), impl.Session(text)) {
			t.Errorf("%q: the first answers hang on those behind", text)
		}
	}
}

// Every text is answered, with one line for each command.
func TestPromise13SpoiltSessions(t *testing.T) {
	r := rand.New(rand.NewSource(37))
	for range 1500 {
		text := someSession(r)
		for range 1 + r.Intn(10) {
			text = spoiltForm(r, text)
			checkAnswers(t, text, answered(text))
		}
		if t.Failed() {
			return
		}
	}
}

func TestPromise13AnyBytes(t *testing.T) {
	r := rand.New(rand.NewSource(38))
	pieces := []string{"web\n", "web\n.\n", "\n.\n", "node a 1\nend \"\"\n", "start", "ready", "do", "all", "told", "clean", "work", "waits",
		"uses", "why", "circle", "stuck", " ", " ", " a", " a", " 0", " 1", "\n", "\n", "\n", ".", "\xff", "\x00", "\r", "\t", "9999", "start a\n"}
	for range 20000 {
		text := strings.Join(make1(r.Intn(30), func(int) string { return pieces[r.Intn(len(pieces))] }), "")
		checkAnswers(t, text, answered(text))
		bytes := someBytes(r, 60)
		checkAnswers(t, bytes, answered(bytes))
	}
	for range 300 {
		long := someBytes(r, impl.MaxSession+5000)
		checkAnswers(t, long, answered(long))
	}
}

// A session does not hang on those ahead of it or beside it, nor on an order in which a map is gone through.
func TestSessionsAnswerTheSameEachTime(t *testing.T) {
	r := rand.New(rand.NewSource(39))
	texts := make1(40, func(int) string { return someSession(r) })
	first := make1(len(texts), func(i int) string { return impl.Session(texts[i]) })
	var all sync.WaitGroup
	for range 8 {
		order := r.Perm(len(texts))
		all.Go(func() {
			for _, i := range order {
				if again := impl.Session(texts[i]); again != first[i] {
					t.Errorf("%q: %q, and before %q", texts[i], again, first[i])
				}
			}
		})
	}
	all.Wait()
	checkAnswers(t, smallTalk, smallAnswers)
	checkAnswers(t, "ready\ndo a\ntold\nclean a\n", allBad(3)+"code 0 units 0 cost 0 a!\"no a\"\n")
}

func TestSessionAnswersAreNewMemory(t *testing.T) {
	r := rand.New(rand.NewSource(40))
	texts := make1(60, func(int) string { return someSession(r) })
	texts = append(texts, "", "bad\n", "ok", "-\n", tooLong, strings.Repeat("too long\n", impl.MaxLines+1))
	for _, text := range texts {
		text = strings.Clone(text)
		checkFresh(t, "Session", func() any { return impl.Session(text) }, text)
	}
}
