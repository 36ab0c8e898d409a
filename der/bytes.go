package der

import (
	"bytes"

	"tollgate/api"
)

// long is from where on a count doesn't fit into one byte.
const long = 0x80

// sizeOf is how many bytes n takes. Of one that is too big it looks no further than till that is plain.
func sizeOf(n *Node) int {
	inner := innerSize(n)
	return 1 + len(countOf(inner)) + inner
}

func innerSize(n *Node) int {
	size := len(n.Body)
	for i := 0; i < len(n.Kids) && size <= api.MaxCert; i++ {
		size += sizeOf(&n.Kids[i])
	}
	return size
}

// appended is b, and the bytes of n behind it.
func appended(b []byte, n *Node) []byte {
	b = append(b, byte(n.Tag))
	b = append(b, countOf(innerSize(n))...)
	b = append(b, n.Body...)
	for i := range n.Kids {
		b = appended(b, &n.Kids[i])
	}
	return b
}

func countOf(n int) []byte {
	if n < long {
		return []byte{byte(n)}
	}
	var digits []byte
	for ; n > 0; n >>= 8 {
		digits = append([]byte{byte(n)}, digits...)
	}
	return append([]byte{long + byte(len(digits))}, digits...)
}

// read is the node that b begins with, at most so deep, and what stands behind it.
func read(b []byte, deep int) (Node, []byte, bool) {
	if len(b) == 0 || deep == 0 {
		return Node{}, nil, false
	}
	inner, behind, ok := counted(b[1:])
	if !ok {
		return Node{}, nil, false
	}
	n := Node{Tag: int(b[0])}
	if isMadeOfOthers(n.Tag) {
		n.Kids, ok = readAll(inner, deep-1)
	} else {
		n.Body, ok = bytes.Clone(inner), holds(n.Tag, inner)
	}
	if !ok {
		return Node{}, nil, false
	}
	return n, behind, true
}

// readAll is the nodes that b consists of.
func readAll(b []byte, deep int) ([]Node, bool) {
	var nodes []Node
	for len(b) > 0 {
		if len(nodes) == mostKids {
			return nil, false
		}
		n, behind, ok := read(b, deep)
		if !ok {
			return nil, false
		}
		nodes = append(nodes, n)
		b = behind
	}
	return nodes, true
}

// counted parts the bytes that the count ahead of them counts from what stands behind.
func counted(b []byte) (inner, behind []byte, ok bool) {
	if len(b) == 0 {
		return nil, nil, false
	}
	count, size := int(b[0]), 1
	if count >= long {
		size += count - long
		count = 0
	}
	if size > len(b) {
		return nil, nil, false
	}
	for _, digit := range b[1:size] {
		count = count<<8 | int(digit)
		if count > len(b) {
			return nil, nil, false
		}
	}
	// The same count in more bytes than it takes is none.
	if count > len(b)-size || !bytes.HasPrefix(b, countOf(count)) {
		return nil, nil, false
	}
	return b[size : size+count], b[size+count:], true
}

// shortest is the body of a number that isn't below 0, of its bytes, the highest first; it may be some of these bytes.
func shortest(b []byte) []byte {
	b = bytes.TrimLeft(b, "\x00")
	if len(b) == 0 || b[0] >= negative {
		return append([]byte{0}, b...)
	}
	return b
}
