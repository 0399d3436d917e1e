package tests

import (
	"math/rand"
	"reflect"
	"regexp"
	"slices"
	"strconv"
	"strings"
	"testing"

	"loop.example/kilnweb/impl"
)

// The lines of a form, told a second time as patterns.
const (
	aNumber = `(-1|0|[1-9][0-9]{0,8})`
	aText   = `"((?:[ !#-\[\]-~]|\\(?:[01][0-9a-f]|22|5c|7f|[89a-f][0-9a-f]))*)"`
)

var (
	nodeLine = regexp.MustCompile(`^node ([!-~]+) ` + aNumber + `$`)
	endLine  = regexp.MustCompile(`^(end|bad) ` + aText + `$`)
	askLine  = regexp.MustCompile(`^ask ([!-~]+) on ` + aNumber + ` else ` + aNumber + ` fall ` + aNumber + `$`)
	caseLine = regexp.MustCompile(`^case ` + aNumber + ` ` + aText + `$`)
	aByte    = regexp.MustCompile(`\\(..)`)
)

func numbered(digits string) int {
	n, _ := strconv.Atoi(digits)
	return n
}

func unquoted(inner string) string {
	return aByte.ReplaceAllStringFunc(inner, func(sign string) string {
		b, _ := strconv.ParseUint(sign[1:], 16, 8)
		return string([]byte{byte(b)})
	})
}

// addLine puts a line to the last of the nodes, and says whether it may stand there.
func addLine(w *impl.Web, line string) bool {
	if m := nodeLine.FindStringSubmatch(line); m != nil {
		w.Nodes = append(w.Nodes, thing(m[1], numbered(m[2])))
		return true
	}
	if len(w.Nodes) == 0 {
		return false
	}
	steps := &w.Nodes[len(w.Nodes)-1].Action.Steps
	if m := endLine.FindStringSubmatch(line); m != nil {
		*steps = append(*steps, impl.Step{End: true, Bad: m[1] == "bad", Give: unquoted(m[2])})
		return true
	}
	if m := askLine.FindStringSubmatch(line); m != nil {
		s := impl.Step{On: numbered(m[2]), Else: numbered(m[3]), Fall: numbered(m[4])}
		if m[1] != "-" {
			s.Asks = strings.Split(m[1], ",")
		}
		*steps = append(*steps, s)
		return true
	}
	m := caseLine.FindStringSubmatch(line)
	if m == nil || len(*steps) == 0 || (*steps)[len(*steps)-1].End {
		return false
	}
	cases := &(*steps)[len(*steps)-1].Cases
	*cases = append(*cases, impl.Case{Goto: numbered(m[1]), Text: unquoted(m[2])})
	return true
}

// readBack tells the definition of ParseWeb a second time.
func readBack(text string) (impl.Web, bool) {
	var w impl.Web
	if len(text) > impl.MaxForm {
		return w, false
	}
	for text != "" {
		line, rest, newline := strings.Cut(text, "\n")
		if !newline || !addLine(&w, line) {
			return impl.Web{}, false
		}
		text = rest
	}
	if impl.CheckWeb(w) != 0 {
		return impl.Web{}, false
	}
	return w, true
}

func someBytes(r *rand.Rand, most int) string {
	signs := `"\ pq0a,-` + "\n\x00\x7f\x80\xff"
	return string(make1(r.Intn(most+1), func(int) byte {
		if r.Intn(3) == 0 {
			return byte(r.Intn(256))
		}
		return signs[r.Intn(len(signs))]
	}))
}

func someName(r *rand.Rand) string {
	if r.Intn(3) == 0 {
		return goodNames[r.Intn(len(goodNames))]
	}
	name := string(make1(1+r.Intn(impl.MaxName), func(int) byte { return byte(33 + r.Intn(94)) }))
	if name = strings.ReplaceAll(name, ",", ";"); name == "-" {
		return "_"
	}
	return name
}

// texted gives the action with other texts and other names.
func texted(r *rand.Rand, a impl.Action) impl.Action {
	for i := range a.Steps {
		s := &a.Steps[i]
		if s.End {
			s.Give = someBytes(r, impl.MaxGive)
		}
		for at := range s.Asks {
			if name := someName(r); !slices.Contains(s.Asks, name) {
				s.Asks[at] = name
			}
		}
		for at := range s.Cases {
			s.Cases[at].Text = someBytes(r, []int{3, 20, impl.MaxText}[r.Intn(3)])
		}
	}
	return a
}

func writable(r *rand.Rand, size int) impl.Web {
	names := make1(size, func(int) string { return someName(r) })
	slices.Sort(names)
	var w impl.Web
	for _, name := range slices.Compact(names) {
		w.Nodes = append(w.Nodes, impl.Node{Name: name, Action: texted(r, randomAction(r))})
	}
	return w
}

// Promise 12: ParseWeb of PrintWeb is the web.
func TestPromise12(t *testing.T) {
	r := rand.New(rand.NewSource(31))
	seen := map[bool]int{}
	for range 200 {
		w := writable(r, r.Intn(impl.MaxNodes+1))
		form := written(w)
		fits := len(form) <= impl.MaxForm
		seen[fits]++
		if fits {
			checkForm(t, w, form)
		} else {
			checkText(t, "too great", impl.PrintWeb(w), "")
			checkUnread(t, "too great", form)
		}
	}
	if seen[true] < 50 || seen[false] < 20 {
		t.Errorf("webs of too few kinds: %v", seen)
	}
}

// spoiltForm changes a form at some place: a byte, a word or a line.
func spoiltForm(r *rand.Rand, form string) string {
	signs := `"\ -,0129af` + "\n\x00\x80AF+t"
	at := r.Intn(len(form) + 1)
	till := min(len(form), at+r.Intn(3))
	switch r.Intn(6) {
	case 0:
		return form[:at] + form[till:]
	case 1:
		return form[:at] + string(signs[r.Intn(len(signs))]) + form[till:]
	case 2:
		return form[:at] + form[at:till] + form[at:till] + form[till:]
	case 3:
		return swapped(r, form, "\n")
	case 4:
		return swapped(r, form, " ")
	}
	extra := []string{"case 0 \"\"\n", "end \"\"\n", "bad \"p\"\n", "ask - on 0 else 0 fall -1\n", "node zz 1\n", "\n"}
	lines := strings.SplitAfter(form, "\n")
	return strings.Join(slices.Insert(lines, r.Intn(len(lines)), extra[r.Intn(len(extra))]), "")
}

// swapped changes places of two pieces between marks, or sets one in the other's place.
func swapped(r *rand.Rand, form, mark string) string {
	list := strings.Split(form, mark)
	i, j := r.Intn(len(list)), r.Intn(len(list))
	if r.Intn(2) == 0 {
		list[j] = list[i]
	} else {
		list[i], list[j] = list[j], list[i]
	}
	return strings.Join(list, mark)
}

// small is a web whose form is short, so that a change at random hits each kind of piece.
func small(r *rand.Rand) impl.Web {
	w := lively(r, 1+r.Intn(3))
	for i := range w.Nodes {
		w.Nodes[i].Action = texted(r, w.Nodes[i].Action)
	}
	return w
}

// Promise 12: where a text is read, the form of what was read is that text; and it is read where it is a form.
func TestPromise12ReadsNothingElse(t *testing.T) {
	r := rand.New(rand.NewSource(32))
	seen := map[bool]int{}
	for range 3000 {
		form := written(small(r))
		for range 1 + r.Intn(12) {
			form = spoiltForm(r, form)
			got, read := impl.ParseWeb(form)
			want, readable := readBack(form)
			seen[read]++
			if read != readable || !reflect.DeepEqual(got, want) {
				t.Fatalf("%q is read as %+v, %v, not as %+v, %v", form, got, read, want, readable)
			}
			if read && impl.PrintWeb(got) != form {
				t.Fatalf("%q is read, and written as %q", form, impl.PrintWeb(got))
			}
		}
	}
	if seen[true] < 1000 || seen[false] < 1000 {
		t.Errorf("texts of too few kinds: %v", seen)
	}
}

func TestReadsAnyBytes(t *testing.T) {
	r := rand.New(rand.NewSource(33))
	pieces := []string{"node", "end", "bad", "ask", "case", " ", " ", " ", "\n", "\n", "a", "b", ",", "-", "0", "1", "on", "else", "fall", `"`, `"`, `\0a`, `\`, "\xff"}
	for range 20000 {
		text := strings.Join(make1(r.Intn(30), func(int) string { return pieces[r.Intn(len(pieces))] }), "")
		got, read := impl.ParseWeb(text)
		if want, readable := readBack(text); read != readable || !reflect.DeepEqual(got, want) {
			t.Fatalf("%q is read as %+v, %v", text, got, read)
		}
	}
}

func TestFormsAreNewMemory(t *testing.T) {
	r := rand.New(rand.NewSource(34))
	for range 60 {
		w := roomyWeb(small(r))
		form := strings.Clone(written(w))
		checkFresh(t, "PrintWeb", func() any { return impl.PrintWeb(w) }, w)
		checkFresh(t, "ParseWeb", func() any { got, _ := impl.ParseWeb(form); return got }, form)
		over := roomyWeb(webOfSize(impl.MaxNodes + 1))
		checkFresh(t, "PrintWeb", func() any { return impl.PrintWeb(over) }, over)
	}
	shared := impl.Web{Nodes: []impl.Node{sharing("a"), sharing("c")}}
	shared.Nodes[1].Action.Steps = shared.Nodes[0].Action.Steps
	shared = impl.Web{Nodes: roomy(shared.Nodes, node("spare"))}
	checkFresh(t, "PrintWeb of shared lists", func() any { return impl.PrintWeb(shared) }, shared)
	checkFresh(t, "ParseWeb of shared lists", func() any { got, _ := impl.ParseWeb(written(shared)); return got })
	checkFresh(t, "ParseWeb", func() any { got, _ := impl.ParseWeb(mixedForm); return got }, mixedForm)
}

// What a call has read is not seen by the next one.
func TestFormsDoNotHangOnEachOther(t *testing.T) {
	first, _ := impl.ParseWeb(mixedForm)
	if _, read := impl.ParseWeb("node z 1\nend \"\\"); read {
		t.Error("a text that breaks off is read")
	}
	second, _ := impl.ParseWeb(mixedForm)
	second.Nodes[0].Action.Steps[0].Asks[0] = "changed"
	if !reflect.DeepEqual(first, mixedWeb()) || impl.PrintWeb(first) != mixedForm {
		t.Error("the first web has changed")
	}
}
