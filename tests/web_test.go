package tests

import (
	"math/rand"
	"reflect"
	"slices"
	"testing"

	"loop.example/kilnweb/impl"
)

func node(name string) impl.Node {
	return impl.Node{Name: name, Action: impl.Action{Cost: 1, Steps: ends(1)}}
}

func web(names ...string) impl.Web {
	var w impl.Web
	for _, n := range names {
		w.Nodes = append(w.Nodes, node(n))
	}
	return w
}

func webOfSize(n int) impl.Web { return web(make1(n, nameNo)...) }

// broken gives the web with an action that is not valid at a place.
func broken(w impl.Web, at int) impl.Web {
	w.Nodes = slices.Clone(w.Nodes)
	w.Nodes[at].Action.Cost = 0
	return w
}

func TestCheckWeb(t *testing.T) {
	over := webOfSize(impl.MaxNodes + 1)
	for i, c := range []struct {
		w    impl.Web
		want int
	}{
		{impl.Web{}, 0},
		{impl.Web{Nodes: []impl.Node{}}, 0},
		{web(goodNames[0]), 0},
		{webOfSize(impl.MaxNodes), 0},
		{web("A", "Z", "a", "aa", "ab", "b"), 0},
		{over, 1},
		{broken(over, 0), 1},
		{impl.Web{Nodes: make([]impl.Node, impl.MaxNodes+1)}, 1},
		{web(""), 2},
		{web("a", "-"), 2},
		// The lesser code is told, wherever its fault stands.
		{web("b", "a", "-"), 2},
		{broken(web("a", "b", "x,y"), 0), 2},
		{web("a", "a"), 3},
		{web("a", "c", "b"), 3},
		{web("aa", "a"), 3},
		{web("a", "B"), 3},
		{broken(web("a", "c", "b"), 0), 3},
		{broken(web("a", "b"), 0), 4},
		{broken(web("a", "b"), 1), 4},
	} {
		if got := impl.CheckWeb(c.w); got != c.want {
			t.Errorf("case %d: %d", i, got)
		}
	}
	for _, name := range badNames {
		if impl.CheckWeb(web(name)) != 2 {
			t.Errorf("%q is no name", name)
		}
	}
	for _, name := range goodNames {
		if impl.CheckWeb(web(name)) != 0 {
			t.Errorf("%q is a name", name)
		}
	}
}

func TestPutNodeRefuses(t *testing.T) {
	full, over := webOfSize(impl.MaxNodes), webOfSize(impl.MaxNodes+1)
	for i, c := range []struct {
		w    impl.Web
		n    impl.Node
		want int
	}{
		{over, node("b"), 1},
		{over, node("a00"), 1},
		{web("b", "a"), node("b"), 1},
		{web("-"), node("b"), 1},
		{broken(web("a"), 0), node("a"), 1},
		{web("b", "a"), node("-"), 1},
		{web("b", "a"), impl.Node{Name: "b"}, 1},
		{web("a"), node(""), 2},
		{web("a"), impl.Node{Name: "a"}, 2},
		{web("a"), impl.Node{Name: "b", Action: impl.Action{Cost: 1}}, 2},
		{full, node("a b"), 2},
		{full, impl.Node{Name: "b"}, 2},
		{full, node("b"), 3},
		{full, node("A"), 3},
		{full, node("a001"), 3},
	} {
		if got, code := impl.PutNode(c.w, c.n); code != c.want || len(got.Nodes) != 0 {
			t.Errorf("case %d: %d, %d nodes", i, code, len(got.Nodes))
		}
	}
	for _, name := range badNames {
		if _, code := impl.PutNode(web("a"), node(name)); code != 2 {
			t.Errorf("%q: %d", name, code)
		}
	}
}

func TestDropNodeRefuses(t *testing.T) {
	for i, c := range []struct {
		w    impl.Web
		name string
		want int
	}{
		{webOfSize(impl.MaxNodes + 1), "a00", 1},
		{web("b", "a"), "a", 1},
		{web("b", "a"), "-", 1},
		{broken(web("a"), 0), "a", 1},
		{web("a"), "", 2},
		{web("a"), "-", 2},
		{impl.Web{}, "a,b", 2},
		{impl.Web{}, "a", 4},
		{web("a", "ab"), "aa", 4},
		{web("a", "ab"), "A", 4},
		{webOfSize(impl.MaxNodes), "b", 4},
	} {
		if got, code := impl.DropNode(c.w, c.name); code != c.want || len(got.Nodes) != 0 {
			t.Errorf("case %d: %d, %d nodes", i, code, len(got.Nodes))
		}
	}
	for _, name := range badNames {
		if _, code := impl.DropNode(web("a"), name); code != 2 {
			t.Errorf("%q: %d", name, code)
		}
	}
}

func TestFullWeb(t *testing.T) {
	full := webOfSize(impl.MaxNodes)
	n := node("a30")
	n.Action.Cost = 7
	set, code := impl.PutNode(full, n)
	if code != 0 || len(set.Nodes) != impl.MaxNodes || set.Nodes[30].Action.Cost != 7 {
		t.Errorf("one set anew in a full web: %d", code)
	}
	less, code := impl.DropNode(full, "a59")
	if code != 0 || len(less.Nodes) != impl.MaxNodes-1 {
		t.Errorf("one taken out of a full web: %d", code)
	}
	if again, code := impl.PutNode(less, node("a59")); code != 0 || !reflect.DeepEqual(again, full) {
		t.Errorf("the last one put in: %d", code)
	}
	if none, code := impl.DropNode(web("a"), "a"); code != 0 || len(none.Nodes) != 0 {
		t.Errorf("the only one taken out: %d", code)
	}
}

// holds says whether the web is just these nodes.
func holds(w impl.Web, nodes map[string]impl.Node) bool {
	if impl.CheckWeb(w) != 0 || len(w.Nodes) != len(nodes) {
		return false
	}
	for _, n := range w.Nodes {
		if !reflect.DeepEqual(n, nodes[n.Name]) {
			return false
		}
	}
	return true
}

// Promise 2: what PutNode and DropNode give is valid, and nothing else has changed in it.
func TestPromise2(t *testing.T) {
	r := rand.New(rand.NewSource(3))
	names := append(make1(63, nameNo), goodNames...)
	var w impl.Web
	nodes := map[string]impl.Node{}
	for i := range 3000 {
		name := names[r.Intn(len(names))]
		_, there := nodes[name]
		want := 0
		var next impl.Web
		var code int
		// It grows until it is full, then it shrinks, and so on.
		if r.Intn(10) < 3+4*(i/500%2) {
			next, code = impl.DropNode(w, name)
			if !there {
				want = 4
			} else {
				delete(nodes, name)
			}
		} else {
			n := impl.Node{Name: name, Action: randomAction(r)}
			next, code = impl.PutNode(w, n)
			if !there && len(nodes) == impl.MaxNodes {
				want = 3
			} else {
				nodes[name] = n
			}
		}
		if code != want {
			t.Fatalf("step %d: code %d, not %d", i, code, want)
		}
		if code == 0 {
			w = next
		} else if len(next.Nodes) != 0 {
			t.Fatalf("step %d: nodes beside code %d", i, code)
		}
		if !holds(w, nodes) {
			t.Fatalf("step %d: another web", i)
		}
	}
}
