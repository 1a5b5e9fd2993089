package kv

import "tiller/api"

// node is the top of a tree of pairs, rising from left to right; nil is one without pairs. The trees on its two sides differ in height by at most 1. A tree is never changed: who changes it gets another one, which shares what is the same, so that who goes through a tree may change the store meanwhile.
type node struct {
	pair        api.Pair
	left, right *node
	height      int
}

func (n *node) high() int {
	if n == nil {
		return 0
	}
	return n.height
}

// above puts a pair between two trees that differ in height by at most 1.
func above(left *node, pair api.Pair, right *node) *node {
	return &node{pair, left, right, 1 + max(left.high(), right.high())}
}

// balanced puts a pair between two trees that differ in height by at most 2.
func balanced(left *node, pair api.Pair, right *node) *node {
	switch {
	case left.high() > right.high()+1 && left.left.high() >= left.right.high():
		return above(left.left, left.pair, above(left.right, pair, right))
	case left.high() > right.high()+1:
		top := left.right
		return above(above(left.left, left.pair, top.left), top.pair, above(top.right, pair, right))
	case right.high() > left.high()+1 && right.right.high() >= right.left.high():
		return above(above(left, pair, right.left), right.pair, right.right)
	case right.high() > left.high()+1:
		top := right.left
		return above(above(left, pair, top.left), top.pair, above(top.right, right.pair, right.right))
	}
	return above(left, pair, right)
}

// with is the tree with a pair, in the stead of the one that has its key.
func (n *node) with(pair api.Pair) *node {
	switch {
	case n == nil:
		return above(nil, pair, nil)
	case pair.Key < n.pair.Key:
		return balanced(n.left.with(pair), n.pair, n.right)
	case pair.Key > n.pair.Key:
		return balanced(n.left, n.pair, n.right.with(pair))
	}
	return above(n.left, pair, n.right)
}

// without is the tree without a key.
func (n *node) without(key string) *node {
	switch {
	case n == nil:
		return nil
	case key < n.pair.Key:
		return balanced(n.left.without(key), n.pair, n.right)
	case key > n.pair.Key:
		return balanced(n.left, n.pair, n.right.without(key))
	case n.right == nil:
		return n.left
	}
	next := n.right.least()
	return balanced(n.left, next, n.right.without(next.Key))
}

func (n *node) least() api.Pair {
	for n.left != nil {
		n = n.left
	}
	return n.pair
}

func (n *node) find(key string) (string, bool) {
	for n != nil {
		switch {
		case key < n.pair.Key:
			n = n.left
		case key > n.pair.Key:
			n = n.right
		default:
			return n.pair.Value, true
		}
	}
	return "", false
}

// tell tells the pairs from a key to below another one, rising, and whether it was not stopped.
func (n *node) tell(from, to string, yield func(string, string) bool) bool {
	if n == nil {
		return true
	}
	key := n.pair.Key
	below := to == "" || key < to
	if from < key && !n.left.tell(from, to, yield) {
		return false
	}
	if from <= key && below && !yield(key, n.pair.Value) {
		return false
	}
	return !below || n.right.tell(from, to, yield)
}
