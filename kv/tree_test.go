package kv

import (
	"fmt"
	"math/rand"
	"testing"

	"tiller/api"
)

// heights ends the test if a tree is not as its type says; it tells how many pairs there are.
func heights(t *testing.T, n *node) int {
	t.Helper()
	if n == nil {
		return 0
	}
	if n.height != 1+max(n.left.high(), n.right.high()) || n.left.high() > n.right.high()+1 || n.right.high() > n.left.high()+1 {
		t.Fatalf("at %q: height %d above %d and %d", n.pair.Key, n.height, n.left.high(), n.right.high())
	}
	return heights(t, n.left) + 1 + heights(t, n.right)
}

// Keys that come and go rising, falling or anyhow leave the tree in balance, and as many pairs as there should be.
func TestTreeStaysInBalance(t *testing.T) {
	const many = 700
	orders := map[string][]int{"rising": make([]int, many), "falling": make([]int, many), "any": rand.New(rand.NewSource(1)).Perm(many)}
	for i := range many {
		orders["rising"][i], orders["falling"][i] = i, many-1-i
	}
	for came, in := range orders {
		for went, out := range orders {
			var n *node
			for i, k := range in {
				n = n.with(api.Pair{Key: fmt.Sprint(k)})
				if got := heights(t, n); got != i+1 {
					t.Fatal(came, i, got)
				}
			}
			for i, k := range out {
				if n.without("none") == nil {
					t.Fatal("a key that is not there takes others away")
				}
				n = n.without(fmt.Sprint(k))
				if got := heights(t, n); got != many-1-i {
					t.Fatal(came, went, i, got)
				}
			}
		}
	}
}
