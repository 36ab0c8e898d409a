package script_test

import (
	"encoding/hex"
	"fmt"
	"regexp"
	"slices"
	"strconv"
	"strings"
	"testing"

	"tollgate/api"
	"tollgate/house"
	"tollgate/script"
	"tollgate/town"
	"tollgate/world"
)

var home town.Town

// form is that of a step's line, by the document's words.
var form = regexp.MustCompile(`\A(?:(start|tick)|(deliver|drop|twice) (to-peer|from-peer|to-server|from-server) (0|[1-9][0-9]{0,5})|(change) (to-peer|from-peer|to-server|from-server) (0|[1-9][0-9]{0,5}) ([0-9a-f]{2})|(inject) (to-peer|from-peer|to-server|from-server) (-|(?:[0-9a-f]{2})+))\z`)

func kindOf(verb string) int {
	return slices.Index([]string{"start", "deliver", "drop", "twice", "change", "inject", "tick"}, verb)
}

func bagOf(name string) int {
	return slices.Index([]string{"to-peer", "from-peer", "to-server", "from-server"}, name)
}

// stepIn is the step that a line is of, if there is one.
func stepIn(line string) (world.Step, bool) {
	m := form.FindStringSubmatch(line)
	if m == nil {
		return world.Step{}, false
	}
	s := world.Step{What: kindOf(m[1] + m[2] + m[5] + m[9])}
	if bag := m[3] + m[6] + m[10]; bag != "" {
		s.Bag = bagOf(bag)
	}
	s.At, _ = strconv.Atoi(m[4] + m[7])
	if m[8] != "" {
		by, _ := strconv.ParseUint(m[8], 16, 8)
		s.By = byte(by)
	}
	if m[11] != "-" {
		s.Bytes, _ = hex.DecodeString(m[11])
	}
	return s, len(s.Bytes) <= 4096
}

// lineOf is a step's line, if it has one.
func lineOf(s world.Step) (string, bool) {
	names := []string{"start", "deliver", "drop", "twice", "change", "inject", "tick"}
	bags := []string{"to-peer", "from-peer", "to-server", "from-server"}
	if s.What == 0 || s.What == 6 {
		return names[s.What], true
	}
	if s.What < 0 || s.What > 6 || s.Bag < 0 || s.Bag > 3 {
		return "", false
	}
	if s.What == 5 {
		word := hex.EncodeToString(s.Bytes)
		if word == "" {
			word = "-"
		}
		return "inject " + bags[s.Bag] + " " + word, len(s.Bytes) <= 4096
	}
	line := fmt.Sprintf("%s %s %d", names[s.What], bags[s.Bag], s.At)
	if s.What == 4 {
		line += fmt.Sprintf(" %02x", s.By)
	}
	return line, s.At >= 0 && s.At <= 999999
}

func sameStep(a, b world.Step) bool {
	return a.What == b.What && a.Bag == b.Bag && a.At == b.At && a.By == b.By && slices.Equal(a.Bytes, b.Bytes)
}

func named(s world.Step) string {
	return fmt.Sprintf("step %d, bag %d, at %d, by %d, %d bytes %.20x", s.What, s.Bag, s.At, s.By, len(s.Bytes), s.Bytes)
}

// isRead holds what Read answers to a line against the words; whether there is a step.
func isRead(t *testing.T, line string) bool {
	t.Helper()
	want, ok := stepIn(line)
	wantE := api.OK
	if !ok {
		want, wantE = world.Step{}, api.ErrForm
	}
	s, e := script.Read(line)
	if e != wantE || !sameStep(s, want) {
		t.Errorf("%.60q (%d bytes): %s, error %d, not %s, error %d", line, len(line), named(s), e, named(want), wantE)
	}
	if e != api.OK {
		return ok
	}
	if again, e := script.Write(s); again != line || e != api.OK {
		t.Errorf("%.60q is written as %.60q, error %d", line, again, e)
	}
	return ok
}

// isWritten holds what Write answers to a step against the words; whether there is a line.
func isWritten(t *testing.T, s world.Step) bool {
	t.Helper()
	want, ok := lineOf(s)
	wantE := api.OK
	if !ok {
		want, wantE = "", api.ErrForm
	}
	line, e := script.Write(s)
	if e != wantE || line != want {
		t.Errorf("%s: %.60q, error %d, not %.60q, error %d", named(s), line, e, want, wantE)
	}
	if e != api.OK {
		return ok
	}
	back, e := script.Read(line)
	if again, _ := script.Write(back); e != api.OK || again != line || back.What != s.What {
		t.Errorf("%.60q is read as %s, error %d", line, named(back), e)
	}
	return ok
}

// shown is a look, by the document's words.
func shown(l world.Look) string {
	name := func(n int, names ...string) string {
		if n < 0 || n >= len(names) {
			return "?"
		}
		return names[n]
	}
	return fmt.Sprintf("peer %s gate %s talks %d kept %d bags %d %d %d %d error %d",
		name(int(l.Peer), "idle", "talking", "accepted", "failed", "lost"),
		name(int(l.Port), "idle", "asking", "waiting", "open", "shut", "lost"),
		l.Talks, l.Kept, l.Bags[0], l.Bags[1], l.Bags[2], l.Bags[3], int(l.Err))
}

// run is what Run must answer, by the document's words.
func run(w *world.World, text string) (string, int, api.Errno) {
	if w == nil {
		return "", 0, api.ErrArg
	}
	if len(text) > 65536 {
		return "", 0, api.ErrBig
	}
	var told strings.Builder
	for i, line := range strings.Split(text, "\n") {
		if line == "" || line[0] == '#' {
			continue
		}
		s, ok := stepIn(line)
		calm := regexp.MustCompile(`\Acalm (0|[1-9][0-9]{0,5})\z`).FindStringSubmatch(line)
		switch {
		case calm != nil:
			most, _ := strconv.Atoi(calm[1])
			w.Calm(most)
			told.WriteString(shown(w.Look()) + "\n")
		case ok:
			told.WriteString(shown(w.Do(s)) + "\n")
		default:
			return told.String(), i + 1, api.ErrForm
		}
	}
	return told.String(), 0, api.OK
}

// newWorld is one of a few packets.
func newWorld(t *testing.T) *world.World {
	t.Helper()
	w, e := world.New(home.On(t, house.Path{Sizes: [2]int{3800, 4000}}))
	if e != api.OK {
		t.Fatal("no world: error ", e)
	}
	return w
}

// isRun holds what Run answers to texts, one behind the other, against the words; what it answered to the last one.
func isRun(t *testing.T, texts ...string) (told string, number int, e api.Errno) {
	t.Helper()
	w, other := newWorld(t), newWorld(t)
	for _, text := range texts {
		told, number, e = script.Run(w, text)
		want, wantNumber, wantE := run(other, text)
		if told != want || number != wantNumber || e != wantE {
			t.Errorf("%.60q (%d bytes): %.200q, line %d, error %d, not %.200q, line %d, error %d", text, len(text), told, number, e, want, wantNumber, wantE)
		}
		k, ok := w.PortKeys()
		if wantK, wantOk := other.PortKeys(); w.Look() != other.Look() || k != wantK || ok != wantOk {
			t.Errorf("%.60q (%d bytes): it stands %v, not %v, or has other keys", text, len(text), w.Look(), other.Look())
		}
	}
	return told, number, e
}
