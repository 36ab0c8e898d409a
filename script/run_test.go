package script_test

import (
	"fmt"
	"math"
	"math/rand"
	"strings"
	"testing"

	"tollgate/api"
	"tollgate/peer"
	"tollgate/port"
	"tollgate/script"
	"tollgate/world"
)

func TestShow(t *testing.T) {
	for _, p := range append(numbers(), 12, 13) {
		for _, g := range append(numbers(), 12, 13) {
			l := world.Look{Peer: peer.State(p), Port: port.State(g), Talks: g, Kept: p, Bags: [4]int{p, g, 100, -1}, Err: api.Errno(g)}
			if got := script.Show(l); got != shown(l) {
				t.Errorf("%q, not %q", got, shown(l))
			}
		}
	}
	for l, want := range map[world.Look]string{
		{}: "peer idle gate idle talks 0 kept 0 bags 0 0 0 0 error 0",
		{Peer: 1, Port: 1, Talks: 2, Kept: 3, Bags: [4]int{4, 5, 6, 7}, Err: 8}: "peer talking gate asking talks 2 kept 3 bags 4 5 6 7 error 8",
		{Peer: 2, Port: 3, Talks: 100, Kept: 99, Bags: [4]int{100}, Err: 14}:    "peer accepted gate open talks 100 kept 99 bags 100 0 0 0 error 14",
		{Peer: 3, Port: 4, Bags: [4]int{3: 1}, Err: -1}:                         "peer failed gate shut talks 0 kept 0 bags 0 0 0 1 error -1",
		{Peer: 4, Port: 5, Talks: -5, Err: 18}:                                  "peer lost gate lost talks -5 kept 0 bags 0 0 0 0 error 18",
		{Port: 2}:                                                               "peer idle gate waiting talks 0 kept 0 bags 0 0 0 0 error 0",
		{Peer: 5, Port: 6}:                                                      "peer ? gate ? talks 0 kept 0 bags 0 0 0 0 error 0",
		{Peer: -1, Port: math.MinInt, Err: math.MaxInt}:                         "peer ? gate ? talks 0 kept 0 bags 0 0 0 0 error 9223372036854775807",
	} {
		if got := script.Show(l); got != want {
			t.Errorf("%q, not %q", got, want)
		}
	}
}

// A text that lets somebody in, part by part.
func TestRun(t *testing.T) {
	told, number, e := isRun(t, "# who wants to come in\nstart\n\ncalm 2\ncalm 1\ncalm 0\ncalm 999999\ndrop to-peer 0\ntick\n\n# all is said\n")
	want := []string{
		"peer idle gate asking talks 0 kept 0 bags 1 0 0 0 error 0",
		"peer talking gate waiting talks 0 kept 0 bags 0 0 1 0 error 0",
		"peer talking gate waiting talks 1 kept 1 bags 0 0 0 1 error 0",
		"peer talking gate waiting talks 1 kept 1 bags 0 0 0 1 error 0",
		"peer accepted gate open talks 0 kept 4 bags 0 0 0 0 error 0",
		"peer accepted gate open talks 0 kept 4 bags 0 0 0 0 error 14",
		"peer accepted gate open talks 0 kept 4 bags 0 0 0 0 error 0",
	}
	if told != strings.Join(want, "\n")+"\n" || number != 0 || e != api.OK {
		t.Errorf("%s, line %d, error %d", told, number, e)
	}
}

// What does nothing tells nothing.
func TestLinesThatDoNothing(t *testing.T) {
	for _, text := range []string{"", "\n", "\n\n\n", "#", "#\n", "# start\n#tick", "#\r\n", "##", "#calm 1", "\n#\n\n", "#\xFF\x00"} {
		if told, number, e := isRun(t, text); told != "" || number != 0 || e != api.OK {
			t.Errorf("%q: %q, line %d, error %d", text, told, number, e)
		}
	}
	for _, text := range []string{"start", "start\n", "\nstart", "#\nstart\n#", "start\n\n\n"} {
		if told, _, e := isRun(t, text); strings.Count(told, "\n") != 1 || !strings.HasSuffix(told, "error 0\n") || e != api.OK {
			t.Errorf("%q: %q, error %d", text, told, e)
		}
	}
}

// The first wrong line is told; those ahead have happened, those behind haven't.
func TestWrongLines(t *testing.T) {
	for _, wrong := range []string{" ", " #", " start", "start ", "start\r", "stop", "Start", "calm", "calm ", "calm 01", "calm 00", "calm -1", "calm +1", "calm -0", "calm 1000000", "calm 99999999999999999999", "calm 5 ", "calm  5", "calm 5\r", "calm a", "calm 1 1", "Calm 1", "calm1", "calm to-peer 1", "deliver to-peer 00", "inject to-peer", "\x00", "tick tick", "peer idle", "-"} {
		for i, ahead := range []string{"", "\n", "start\n", "#\nstart\n\n", "tick\nstart\ncalm 2\n"} {
			told, number, e := isRun(t, ahead+wrong+"\nstart\ntick\nstop\n")
			if e != api.ErrForm || number != strings.Count(ahead, "\n")+1 || strings.Count(told, "\n") != []int{0, 0, 1, 1, 3}[i] {
				t.Errorf("%q behind %q: %q, line %d, error %d", wrong, ahead, told, number, e)
			}
			isRun(t, ahead+wrong+"\nstart", "start\ncalm 3")
		}
	}
	for _, right := range []string{"calm 0", "calm 1", "calm 10", "calm 999999"} {
		if told, number, e := isRun(t, right); told != shown(world.Look{})+"\n" || number != 0 || e != api.OK {
			t.Errorf("%q: %q, line %d, error %d", right, told, number, e)
		}
	}
}

// Errors of steps are told; they end nothing.
func TestErrorsOfSteps(t *testing.T) {
	told, _, e := isRun(t, "deliver to-peer 0\nstart\nstart\ninject from-peer 01\ndeliver from-peer 5\ninject to-server -\ndeliver to-server 0\ntwice from-server 1\ncalm 100")
	want := []int{14, 0, 10, 0, 3, 0, 14, 14, 0}
	for i, line := range strings.Split(strings.TrimSuffix(told, "\n"), "\n") {
		if i >= len(want) || !strings.HasSuffix(line, fmt.Sprint(" error ", want[i])) {
			t.Errorf("line %d: %q", i, line)
		}
	}
	if strings.Count(told, "\n") != len(want) || e != api.OK {
		t.Errorf("%q, error %d", told, e)
	}
}

func TestGreatTexts(t *testing.T) {
	for n, want := range map[int]api.Errno{65534: api.OK, 65535: api.OK, 65536: api.OK, 65537: api.ErrBig, 65538: api.ErrBig, 1 << 20: api.ErrBig, 1 << 24: api.ErrBig} {
		text := "start\n#" + strings.Repeat("x", n-12) + "\ntick"
		told, number, e := isRun(t, text)
		if len(text) != n || e != want || number != 0 || strings.Count(told, "\n") != map[api.Errno]int{api.OK: 2, api.ErrBig: 0}[want] {
			t.Errorf("%d bytes: %q, line %d, error %d", n, told, number, e)
		}
		isRun(t, "stop\n"+strings.Repeat("\n", n-5))
	}
	if told, number, e := isRun(t, strings.Repeat("\n", 65536)); told != "" || number != 0 || e != api.OK {
		t.Errorf("%q, line %d, error %d", told, number, e)
	}
	if told, number, e := isRun(t, strings.Repeat("tick\n", 13000)+"x"); strings.Count(told, "\n") != 13000 || number != 13001 || e != api.ErrForm {
		t.Errorf("%d bytes, line %d, error %d", len(told), number, e)
	}
}

func TestNoWorld(t *testing.T) {
	for _, text := range []string{"", "start", "stop", "#", strings.Repeat("\n", 70000)} {
		if told, number, e := script.Run(nil, text); told != "" || number != 0 || e != api.ErrArg {
			t.Errorf("%.20q: %q, line %d, error %d", text, told, number, e)
		}
	}
	// One that New didn't make counts as none to each line.
	told, number, e := script.Run(&world.World{}, "start\ncalm 5\n")
	if want := shown(world.Look{Err: api.ErrArg}) + "\n"; told != want+want || number != 0 || e != api.OK {
		t.Errorf("%q, line %d, error %d", told, number, e)
	}
}

// Any lines do what they do one by one, in one text or in many.
func TestAnyTexts(t *testing.T) {
	for seed := range 40 {
		t.Run(fmt.Sprint(seed), func(t *testing.T) {
			t.Parallel()
			r := rand.New(rand.NewSource(int64(seed)))
			var all []string
			for range 60 {
				all = append(all, anyLine(r))
			}
			whole, _, e := isRun(t, strings.Join(all, "\n"))
			w, parts := newWorld(t), ""
			for _, line := range all {
				told, _, f := script.Run(w, line)
				if parts += told; f != api.OK {
					e = f
				}
			}
			if whole != parts || e != api.OK {
				t.Errorf("%q, but line by line %q, error %d", whole, parts, e)
			}
		})
	}
}

// anyLine is a right line, as the network may do it.
func anyLine(r *rand.Rand) string {
	bag := []string{"to-peer", "from-peer", "to-server", "from-server"}[r.Intn(4)]
	switch n := r.Intn(20); {
	case n < 3:
		return "start"
	case n < 5:
		return "tick"
	case n < 6:
		return fmt.Sprintf("drop %s %d", bag, r.Intn(1000000))
	case n < 7:
		return fmt.Sprintf("twice %s %d", bag, r.Intn(9))
	case n < 8:
		return fmt.Sprintf("change %s %d %02x", bag, r.Intn(1000), r.Intn(256))
	case n < 9:
		return fmt.Sprintf("inject %s 0%d0%d000501", bag, 1+r.Intn(4), r.Intn(5))
	case n < 10:
		return []string{"", "#", "# x", "inject " + bag + " -"}[r.Intn(4)]
	case n < 13:
		return fmt.Sprintf("calm %d", r.Intn(6))
	}
	return fmt.Sprintf("deliver %s %d", bag, r.Intn(3))
}
