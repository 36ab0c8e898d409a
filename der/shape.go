package der

const (
	// part1 and part2 are tags, too: nobody asks for them by name.
	part1 = 0xA1
	part2 = 0xA2

	mostKids = 20

	// negative is the bit of a number's first byte by which it is below 0; more that of an Oid's byte by which its
	// number goes on.
	negative = 0x80
	more     = 0x80

	// mostNum is the highest plain number.
	mostNum = 1<<62 - 1
)

// inForm: is it, and at most so deep?
func inForm(n *Node, deep int) bool {
	if deep == 0 {
		return false
	}
	if !isMadeOfOthers(n.Tag) {
		return len(n.Kids) == 0 && holds(n.Tag, n.Body)
	}
	if len(n.Body) > 0 || len(n.Kids) > mostKids {
		return false
	}
	for i := range n.Kids {
		if !inForm(&n.Kids[i], deep-1) {
			return false
		}
	}
	return true
}

func isMadeOfOthers(tag int) bool {
	switch tag {
	case Seq, Part0, part1, part2, Part3:
		return true
	}
	return false
}

// holds: may a body stand behind a tag of those that are made of bytes?
func holds(tag int, body []byte) bool {
	switch tag {
	case Bool:
		return len(body) == 1 && (body[0] == 0 || body[0] == 0xFF)
	case Int:
		return isNumber(body)
	case Bits:
		return areBits(body)
	case Bytes:
		return true
	case Oid:
		return areNumbers(body)
	case Text:
		return isText(body)
	}
	return false
}

// isNumber: in two's complement, with no byte ahead that says nothing.
func isNumber(b []byte) bool {
	if len(b) < 2 {
		return len(b) == 1
	}
	below := b[1] >= negative
	return !(b[0] == 0 && !below) && !(b[0] == 0xFF && below)
}

// areBits: the first byte says how many of the last one don't count, and these are noughts.
func areBits(b []byte) bool {
	if len(b) == 0 || b[0] > 7 {
		return false
	}
	if len(b) == 1 {
		return b[0] == 0
	}
	return b[len(b)-1]&(1<<b[0]-1) == 0
}

// areNumbers: seven bits a byte, none begins with noughts alone, and the last one ends.
func areNumbers(b []byte) bool {
	begins := true
	for _, c := range b {
		if begins && c == more {
			return false
		}
		begins = c < more
	}
	return len(b) > 0 && begins
}

func isText(b []byte) bool {
	for _, c := range b {
		if c < ' ' || c > '~' {
			return false
		}
	}
	return true
}
