package der

import "bytes"

// The document speaks of so many bytes and items, so deep in one another. Beyond that a list may even hold itself, and
// a copy of it would never end.
const (
	mostItems  = 1<<31 - 1
	mostNested = 1 << 16
)

// left is how many items there may be beside those of the nodes; below 0: they are too many, or too deep.
func left(nodes []Node, items, nested int) int {
	if len(nodes) > 0 && nested == 0 {
		return -1
	}
	for i := 0; i < len(nodes) && items >= 0; i++ {
		items = left(nodes[i].Kids, items-1-len(nodes[i].Body), nested-1)
	}
	return items
}

func copied(nodes []Node) []Node {
	if len(nodes) == 0 {
		return nil
	}
	all := make([]Node, len(nodes))
	for i, n := range nodes {
		all[i] = Node{Tag: n.Tag, Body: bytes.Clone(n.Body), Kids: copied(n.Kids)}
	}
	return all
}
