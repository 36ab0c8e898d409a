package script

import (
	"slices"
	"strconv"
	"strings"

	"tollgate/api"
	"tollgate/world"
)

const (
	blank   = " "
	noBytes = "-"
	digits  = "0123456789abcdef"
	base    = len(digits)
	mostAt  = 999999
)

// verbs are the first words of lines, by what happens.
func verbs() []string {
	return []string{
		world.Start: "start", world.Deliver: "deliver", world.Drop: "drop", world.Twice: "twice",
		world.Change: "change", world.Inject: "inject", world.Tick: "tick",
	}
}

func bags() []string {
	return []string{
		world.ToPeer: "to-peer", world.FromPeer: "from-peer", world.ToServer: "to-server", world.FromServ: "from-server",
	}
}

// inForm: each part that stands in a step's line is one that may stand there.
func inForm(s world.Step) bool {
	switch s.What {
	case world.Start:
		fallthrough
	case world.Tick:
		return true
	case world.Deliver, world.Drop, world.Twice, world.Change:
		return isOf(s.Bag, bags()) && isAt(s.At)
	case world.Inject:
		return isOf(s.Bag, bags()) && len(s.Bytes) <= api.MaxPacket
	}
	return false
}

// wordsOf are those of the line of a step in form.
func wordsOf(s world.Step) []string {
	verb, bag, at := verbs()[s.What], nameOf(bags(), s.Bag), strconv.Itoa(s.At)
	switch s.What {
	case world.Start:
		fallthrough
	case world.Tick:
		return []string{verb}
	case world.Change:
		return []string{verb, bag, at, wordOf([]byte{s.By})}
	case world.Inject:
		return []string{verb, bag, wordOf(s.Bytes)}
	}
	return []string{verb, bag, at}
}

// said is the step that a line is of, if there is one.
func said(line string) world.Step {
	var words [4]string
	copy(words[:], strings.SplitN(line, blank, len(words)))
	s := world.Step{What: slices.Index(verbs(), words[0])}
	switch s.What {
	case world.Start:
		fallthrough
	case world.Tick:
		return s
	case world.Inject:
		s.Bytes = bytesIn(words[2])
	case world.Change:
		if by := bytesIn(words[3]); len(by) > 0 {
			s.By = by[0]
		}
		fallthrough
	default:
		s.At = numberIn(words[2])
	}
	s.Bag = slices.Index(bags(), words[1])
	return s
}

func isOf(n int, words []string) bool { return 0 <= n && n < len(words) }

func isAt(n int) bool { return 0 <= n && n <= mostAt }

// numberIn is what a word says, if it says a number: who asks holds it against the word.
func numberIn(word string) int {
	n, _ := strconv.Atoi(word)
	return n
}

func wordOf(b []byte) string {
	if len(b) == 0 {
		return noBytes
	}
	var word strings.Builder
	for _, x := range b {
		word.WriteByte(digits[int(x)/base])
		word.WriteByte(digits[int(x)%base])
	}
	return word.String()
}

// bytesIn are what a word says, if it says some: who asks holds them against the word. They are no more than there may
// be, however long the word is.
func bytesIn(word string) []byte {
	var b []byte
	for ; len(word) > 1 && len(b) < api.MaxPacket; word = word[2:] {
		x, _ := strconv.ParseUint(word[:2], base, 8)
		b = append(b, byte(x))
	}
	return b
}
