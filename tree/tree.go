// Package tree keeps values under texts, byte by byte, in states that stay as they are.
package tree

import (
	"cmp"
	"iter"
	"slices"
)

// Tree is one state: a root whose nodes are never changed. The zero value is empty.
type Tree[V any] struct {
	root *node[V]
}

// node: what is kept where the bytes on the way from the root end.
type node[V any] struct {
	full  bool
	value V
	kids  []kid[V] // ordered by their bytes
}

type kid[V any] struct {
	label byte
	below *node[V]
}

// Get tells the value of a key, and whether there is one.
func (t Tree[V]) Get(key string) (V, bool) {
	n := t.root.follow(key)
	if n == nil || !n.full {
		var none V
		return none, false
	}
	return n.value, true
}

// From goes through the keys that begin with the prefix, in their order, and tells each one's value.
func (t Tree[V]) From(prefix string) iter.Seq2[string, V] {
	return func(yield func(string, V) bool) {
		if n := t.root.follow(prefix); n != nil {
			n.walk([]byte(prefix), yield)
		}
	}
}

// With tells the state in which the key has the value.
func (t Tree[V]) With(key string, value V) Tree[V] {
	return Tree[V]{t.root.with(key, value)}
}

// Without tells the state in which the key has no value.
func (t Tree[V]) Without(key string) Tree[V] {
	if _, ok := t.Get(key); !ok {
		return t
	}
	return Tree[V]{t.root.without(key)}
}

func (n *node[V]) find(label byte) (int, bool) {
	return slices.BinarySearchFunc(n.kids, label, func(k kid[V], b byte) int {
		return cmp.Compare(k.label, b)
	})
}

func (n *node[V]) child(label byte) *node[V] {
	i, ok := n.find(label)
	if !ok {
		return nil
	}
	return n.kids[i].below
}

// follow tells the node to which the text leads, nil if there is none.
func (n *node[V]) follow(text string) *node[V] {
	for i := 0; n != nil && i < len(text); i++ {
		n = n.child(text[i])
	}
	return n
}

// walk goes through n, which stands at the key, and what is below it, until yield wants no more.
// A key goes ahead of those that begin with it, so n goes ahead of its kids.
func (n *node[V]) walk(key []byte, yield func(string, V) bool) bool {
	if n.full && !yield(string(key), n.value) {
		return false
	}
	for _, k := range n.kids {
		if !k.below.walk(append(key, k.label), yield) {
			return false
		}
	}
	return true
}

// fresh tells a node that may still be changed: other states may share n and its kids.
func (n *node[V]) fresh() *node[V] {
	if n == nil {
		return &node[V]{}
	}
	return &node[V]{full: n.full, value: n.value, kids: slices.Clone(n.kids)}
}

func (n *node[V]) with(key string, value V) *node[V] {
	made := n.fresh()
	if key == "" {
		made.full, made.value = true, value
		return made
	}
	i, ok := made.find(key[0])
	if !ok {
		made.kids = slices.Insert(made.kids, i, kid[V]{label: key[0]})
	}
	made.kids[i].below = made.kids[i].below.with(key[1:], value)
	return made
}

// without takes away a key that is there. Nodes that lead to nothing go too (the answer is nil then),
// so that a state is no larger than what it keeps.
func (n *node[V]) without(key string) *node[V] {
	made := n.fresh()
	if key == "" {
		var none V
		made.full, made.value = false, none
		return made.orNil()
	}
	i, _ := made.find(key[0])
	made.kids[i].below = made.kids[i].below.without(key[1:])
	if made.kids[i].below == nil {
		made.kids = slices.Delete(made.kids, i, i+1)
	}
	return made.orNil()
}

func (n *node[V]) orNil() *node[V] {
	if !n.full && len(n.kids) == 0 {
		return nil
	}
	return n
}
