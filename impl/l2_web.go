package impl

import (
	"cmp"
	"slices"
	"strings"
)

// MaxNodes: things of a web.
const MaxNodes = 60

// Node is a thing and its action.
type Node struct {
	Name   string
	Action Action
}

// Web is things that can be made.
type Web struct {
	Nodes []Node
}

// sorted is a list that is kept ascending by the keys of its items.
// Its items may be an argument's: no method writes into them.
type sorted[K cmp.Ordered, T any] struct {
	items []T
	key   func(T) K
}

func (l sorted[K, T]) ascending() bool {
	for i := 1; i < len(l.items); i++ {
		if l.key(l.items[i-1]) >= l.key(l.items[i]) {
			return false
		}
	}
	return true
}

// find gives the place at which a key stands or would stand, and whether it is there.
func (l sorted[K, T]) find(key K) (int, bool) {
	return slices.BinarySearchFunc(l.items, key, func(item T, key K) int {
		return cmp.Compare(l.key(item), key)
	})
}

// with gives the list with an item in place of that with its key, if there is one.
func (l sorted[K, T]) with(item T) sorted[K, T] {
	at, found := l.find(l.key(item))
	behind := at
	if found {
		behind++
	}
	return sorted[K, T]{slices.Concat(l.items[:at], []T{item}, l.items[behind:]), l.key}
}

// without gives the list without the item that has the key, and whether there was one.
func (l sorted[K, T]) without(key K) (sorted[K, T], bool) {
	at, found := l.find(key)
	if !found {
		return l, false
	}
	return sorted[K, T]{slices.Concat(l.items[:at], l.items[at+1:]), l.key}, true
}

func nodeName(n Node) string {
	return n.Name
}

func listOf(w Web) sorted[string, Node] {
	return sorted[string, Node]{w.Nodes, nodeName}
}

// webOf gives a web that shares no memory with the list.
func webOf(list sorted[string, Node]) Web {
	return Web{Nodes: copyEach(list.items, copyNode)}
}

// copyEach gives a new list without spare room; each says how an item is copied.
func copyEach[T any](list []T, each func(T) T) []T {
	if len(list) == 0 {
		return nil
	}
	out := make([]T, len(list))
	for i, item := range list {
		out[i] = each(item)
	}
	return out
}

func copyNode(n Node) Node {
	n.Name = strings.Clone(n.Name)
	n.Action.Steps = copyEach(n.Action.Steps, copyStep)
	return n
}

func copyStep(s Step) Step {
	s.Asks = copyEach(s.Asks, strings.Clone)
	s.Cases = copyEach(s.Cases, copyCase)
	s.Give = strings.Clone(s.Give)
	return s
}

func copyCase(c Case) Case {
	c.Text = strings.Clone(c.Text)
	return c
}

func badlyNamed(n Node) bool {
	return !validName(n.Name)
}

func badlyMade(n Node) bool {
	return !ValidAction(n.Action)
}

// CheckWeb says what is wrong with a web.
func CheckWeb(w Web) int {
	switch {
	case len(w.Nodes) > MaxNodes:
		return 1
	case slices.ContainsFunc(w.Nodes, badlyNamed):
		return 2
	case !listOf(w).ascending():
		return 3
	case slices.ContainsFunc(w.Nodes, badlyMade):
		return 4
	}
	return 0
}

// PutNode sets a node.
func PutNode(w Web, n Node) (Web, int) {
	if CheckWeb(w) != 0 {
		return Web{}, 1
	}
	if badlyNamed(n) || badlyMade(n) {
		return Web{}, 2
	}
	list := listOf(w).with(n)
	if len(list.items) > MaxNodes {
		return Web{}, 3
	}
	return webOf(list), 0
}

// DropNode takes a node away.
func DropNode(w Web, name string) (Web, int) {
	if CheckWeb(w) != 0 {
		return Web{}, 1
	}
	if !validName(name) {
		return Web{}, 2
	}
	list, found := listOf(w).without(name)
	if !found {
		return Web{}, 4
	}
	return webOf(list), 0
}
