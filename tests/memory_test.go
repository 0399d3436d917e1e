package tests

import (
	"math/rand"
	"reflect"
	"testing"
	"unsafe"

	"loop.example/kilnweb/impl"
)

// roomy gives the list with spare room behind its end, which is filled, too.
func roomy[T any](list []T, spare T) []T {
	out := append(make([]T, 0, len(list)+3), list...)
	return append(out, spare, spare, spare)[:len(list)]
}

func roomyStep(s impl.Step) impl.Step {
	s.Asks = roomy(s.Asks, "spare")
	s.Cases = roomy(s.Cases, impl.Case{Text: "spare", Goto: 99})
	return s
}

func roomyNode(n impl.Node) impl.Node {
	n.Action = roomyAction(n.Action)
	return n
}

func roomyAction(a impl.Action) impl.Action {
	steps := make1(len(a.Steps), func(i int) impl.Step { return roomyStep(a.Steps[i]) })
	a.Steps = roomy(steps, roomyStep(end("spare")))
	return a
}

func roomyWeb(w impl.Web) impl.Web {
	nodes := make1(len(w.Nodes), func(i int) impl.Node { return roomyNode(w.Nodes[i]) })
	return impl.Web{Nodes: roomy(nodes, roomyNode(node("spare")))}
}

// opened gives a copy of a value in which every list is as long as its room, so that what is behind an end is seen.
func opened(v reflect.Value) reflect.Value {
	out := reflect.New(v.Type()).Elem()
	switch v.Kind() {
	case reflect.Slice:
		full := v.Slice(0, v.Cap())
		out.Set(reflect.MakeSlice(v.Type(), full.Len(), full.Len()))
		for i := range full.Len() {
			out.Index(i).Set(opened(full.Index(i)))
		}
	case reflect.Struct:
		for i := range v.NumField() {
			out.Field(i).Set(opened(v.Field(i)))
		}
	default:
		out.Set(v)
	}
	return out
}

func snapshot(args ...any) []any {
	return make1(len(args), func(i int) any { return opened(reflect.ValueOf(args[i])).Interface() })
}

// piece is memory from one address up to another.
type piece struct{ from, to uintptr }

// pieces gives the memory of all lists in a value with their spare room, and of all texts.
func pieces(v reflect.Value) []piece {
	var out []piece
	switch v.Kind() {
	case reflect.Slice:
		full := v.Slice(0, v.Cap())
		if size := uintptr(full.Len()) * v.Type().Elem().Size(); size > 0 {
			out = append(out, piece{full.Pointer(), full.Pointer() + size})
		}
		for i := range full.Len() {
			out = append(out, pieces(full.Index(i))...)
		}
	case reflect.Struct:
		for i := range v.NumField() {
			out = append(out, pieces(v.Field(i))...)
		}
	case reflect.String:
		if text := v.String(); text != "" {
			from := uintptr(unsafe.Pointer(unsafe.StringData(text)))
			out = append(out, piece{from, from + uintptr(len(text))})
		}
	}
	return out
}

func overlap(a, b []piece) bool {
	for _, x := range a {
		for _, y := range b {
			if x.from < y.to && y.from < x.to {
				return true
			}
		}
	}
	return false
}

func overlapWithin(a []piece) bool {
	for i := range a {
		if overlap(a[:i], a[i:i+1]) {
			return true
		}
	}
	return false
}

// sharing is a node two of whose lists are one, so that an answer must part them.
func sharing(name string) impl.Node {
	asks := []string{"x1", "y1"}
	cases := []impl.Case{{Text: "p", Goto: 1}}
	step := impl.Step{Asks: asks, Cases: cases, Fall: -1}
	return impl.Node{Name: name, Action: impl.Action{Cost: 2, Steps: []impl.Step{step, step, end("G")}}}
}

func checkWebAnswer(t *testing.T, what string, call func() (impl.Web, int), args ...any) {
	t.Helper()
	before := snapshot(args...)
	got, code := call()
	if code != 0 || len(got.Nodes) == 0 {
		t.Fatalf("%s: code %d", what, code)
	}
	if !reflect.DeepEqual(before, snapshot(args...)) {
		t.Errorf("%s: an argument was written into", what)
	}
	checkMemory(t, what, got, args...)
}

// checkMemory: an answer shares no memory with an argument, nor one part of it with another.
func checkMemory(t *testing.T, what string, got any, args ...any) {
	t.Helper()
	mine := pieces(reflect.ValueOf(got))
	for _, a := range args {
		if overlap(mine, pieces(reflect.ValueOf(a))) {
			t.Errorf("%s: the answer shares memory with an argument", what)
		}
	}
	if overlapWithin(mine) {
		t.Errorf("%s: two parts of the answer share memory", what)
	}
}

func TestWebAnswersAreNewMemory(t *testing.T) {
	r := rand.New(rand.NewSource(4))
	for range 30 {
		w := impl.Web{Nodes: []impl.Node{{Name: "a", Action: randomAction(r)}, sharing("c"), sharing("e"), {Name: "g", Action: randomAction(r)}}}
		w = roomyWeb(w)
		w.Nodes[1].Action.Steps[0].Asks = w.Nodes[2].Action.Steps[0].Asks
		w.Nodes[2].Action.Steps = w.Nodes[1].Action.Steps
		for _, name := range []string{"B", "a", "d", "g", "h"} {
			n := roomyNode(impl.Node{Name: name, Action: randomAction(r)})
			checkWebAnswer(t, "PutNode "+name, func() (impl.Web, int) { return impl.PutNode(w, n) }, w, n)
		}
		same := impl.Node{Name: "f", Action: w.Nodes[1].Action}
		checkWebAnswer(t, "PutNode of an action of the web", func() (impl.Web, int) { return impl.PutNode(w, same) }, w, same)
		for _, name := range []string{"a", "c", "g"} {
			checkWebAnswer(t, "DropNode "+name, func() (impl.Web, int) { return impl.DropNode(w, name) }, w, name)
		}
	}
}

func TestArgumentsStay(t *testing.T) {
	r := rand.New(rand.NewSource(5))
	for range 100 {
		a := roomyAction(randomAction(r))
		texts := roomy(make1(1+r.Intn(5), func(int) string { return word(r) }), "spare")
		w := roomyWeb(impl.Web{Nodes: []impl.Node{{Name: "a", Action: a}, sharing("b")}})
		full := roomyWeb(webOfSize(impl.MaxNodes))
		n := roomyNode(sharing("b"))
		for at, s := range a.Steps {
			y := roomy(make1(len(s.Asks), func(int) impl.Answer { return impl.Answer{Fail: r.Intn(4) == 0, Text: word(r)} }), fail("spare"))
			before := snapshot(a, y)
			impl.GoOn(a, at, y)
			if !reflect.DeepEqual(before, snapshot(a, y)) {
				t.Fatal("GoOn wrote into an argument")
			}
		}
		before := snapshot(a, texts, w, full, n)
		impl.ValidAction(a)
		impl.Finish("g", texts)
		impl.CheckWeb(w)
		impl.PutNode(w, n)
		impl.PutNode(full, n)
		impl.DropNode(w, "a")
		impl.DropNode(w, "z")
		if !reflect.DeepEqual(before, snapshot(a, texts, w, full, n)) {
			t.Fatal("an argument was written into")
		}
	}
}
