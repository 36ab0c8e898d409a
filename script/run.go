package script

import (
	"strconv"
	"strings"

	"tollgate/api"
	"tollgate/world"
)

const (
	lineEnd = "\n"
	remark  = "#"
	calm    = "calm" + blank
	unknown = "?"
)

func peerStates() []string { return []string{"idle", "talking", "accepted", "failed", "lost"} }

func gateStates() []string { return []string{"idle", "asking", "waiting", "open", "shut", "lost"} }

func nameOf(names []string, n int) string {
	if !isOf(n, names) {
		return unknown
	}
	return names[n]
}

func wordsOfLook(l world.Look) []string {
	words := []string{
		"peer", nameOf(peerStates(), int(l.Peer)), "gate", nameOf(gateStates(), int(l.Port)),
		"talks", strconv.Itoa(l.Talks), "kept", strconv.Itoa(l.Kept), "bags",
	}
	for _, n := range l.Bags {
		words = append(words, strconv.Itoa(n))
	}
	return append(words, "error", strconv.Itoa(int(l.Err)))
}

// happen lets a line of a text happen. What is told then: nothing, if the line does nothing.
func happen(w *world.World, line string) (string, api.Errno) {
	if line == "" || strings.HasPrefix(line, remark) {
		return "", api.OK
	}
	if most, ok := calmIn(line); ok {
		w.Calm(most)
		return Show(w.Look()) + lineEnd, api.OK
	}
	s, e := Read(line)
	if e != api.OK {
		return "", e
	}
	return Show(w.Do(s)) + lineEnd, api.OK
}

// calmIn is how often messages are delivered at most by a line, if it is one of that kind.
func calmIn(line string) (int, bool) {
	word, ok := strings.CutPrefix(line, calm)
	most := numberIn(word)
	if !ok || !isAt(most) || strconv.Itoa(most) != word {
		return 0, false
	}
	return most, true
}
