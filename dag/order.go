package dag

import (
	"iter"

	"tiller/api"
)

// firsts are the numbers of the first nodes of each name.
func firsts(d api.Def) map[string]int {
	first := make(map[string]int, len(d.Nodes))
	for i, n := range d.Nodes {
		if _, there := first[n.Name]; !there {
			first[n.Name] = i
		}
	}
	return first
}

// ahead is the node that a name in the After of n means. None is meant by a name that nobody has, and none by n's own: n can't wait for itself.
func ahead(n api.Node, name string, first map[string]int) (int, bool) {
	i, there := first[name]
	return i, there && name != n.Name
}

// waits says of each node for how many others it waits, and who waits for it. A name that means no node counts as one for which the wait never ends.
func waits(d api.Def) (open []int, behind [][]int) {
	first := firsts(d)
	open = make([]int, len(d.Nodes))
	behind = make([][]int, len(d.Nodes))
	for i, n := range d.Nodes {
		open[i] = len(n.After)
		for _, name := range n.After {
			if j, ok := ahead(n, name, first); ok {
				behind[j] = append(behind[j], i)
			}
		}
	}
	return open, behind
}

// told stands for the wait of a node that was told.
const told = -1

// Order is the nodes, each behind those ahead of it.
func Order(d api.Def) ([]int, bool) {
	open, behind := waits(d)
	var order []int
	from := 0 // no node ahead of it may be told
anew:
	for i := from; i < len(open); i++ {
		if open[i] != 0 {
			continue
		}
		order = append(order, i)
		open[i] = told
		from = i
		for _, j := range behind[i] {
			open[j]--
			if open[j] == 0 {
				from = min(from, j)
			}
		}
		if from < i {
			goto anew
		}
	}
	return order, len(order) == len(d.Nodes)
}

// ReadyNodes are the nodes that may begin.
func ReadyNodes(d api.Def, over, begun []bool) []int {
	first := firsts(d)
	var ready []int
	for i, n := range d.Nodes {
		if !marked(begun, i) && allOver(n, first, over) {
			ready = append(ready, i)
		}
	}
	return ready
}

// marked says whether a list has a mark at a node; what it doesn't reach has none.
func marked(list []bool, i int) bool {
	return i < len(list) && list[i]
}

// allOver says whether all nodes that a node waits for are over.
func allOver(n api.Node, first map[string]int, over []bool) bool {
	for _, name := range n.After {
		if i, ok := ahead(n, name, first); !ok || !marked(over, i) {
			return false
		}
	}
	return true
}

// Depth is the longest row of nodes. As each node is told behind its After, the rows that end with those are known by then.
func Depth(d api.Def) int {
	first := firsts(d)
	row := make([]int, len(d.Nodes))
	longest := 0
	for i, n := range Walk(d) {
		for _, name := range n.After {
			row[i] = max(row[i], row[first[name]])
		}
		row[i]++
		longest = max(longest, row[i])
	}
	return longest
}

// Walk tells the nodes in order. It keeps a copy of them, and gives out copies of that: who ranges may change what it got, and the definition itself.
func Walk(d api.Def) iter.Seq2[int, api.Node] {
	order, _ := Order(d)
	var nodes []api.Node
	for _, n := range d.Nodes {
		nodes = append(nodes, copied(n))
	}
	return func(yield func(int, api.Node) bool) {
		for _, i := range order {
			if !yield(i, copied(nodes[i])) {
				return
			}
		}
	}
}

func copied(n api.Node) api.Node {
	n.After = append([]string(nil), n.After...)
	return n
}
